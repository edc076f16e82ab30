/- SharesOf of the program. -/
import Derived.Test.YtekhjoenejgmaaaShr
import Derived.Test.YtekhjoenejgmaaaSk
import Derived.Deep.RegionLaw
import Derived.Deep.CutRange
namespace Go.Proofs.Ytekhjoenejgmaaa
open Go.RowKit Go.Deep Go.Joins
set_option linter.unusedVariables false

theorem box_set0 {W : World} {B : Nat} {t : TypeId} {u0 u1 u2 : Value} (h : Boxes W B t #[u0, u1, u2]) (v : Value) : Boxes (W.setCell ⟨B, 0, none⟩ v) B t #[v, u1, u2] := h.set3 v
theorem box_set1 {W : World} {B : Nat} {t : TypeId} {u0 u1 u2 : Value} (h : Boxes W B t #[u0, u1, u2]) (v : Value) : Boxes (W.setCell ⟨B, 1, none⟩ v) B t #[u0, v, u2] := by
  unfold Boxes at h ⊢
  simp [World.setCell, Array.getElem?_modify, h]
theorem box_set2 {W : World} {B : Nat} {t : TypeId} {u0 u1 u2 : Value} (h : Boxes W B t #[u0, u1, u2]) (v : Value) : Boxes (W.setCell ⟨B, 2, none⟩ v) B t #[u0, u1, v] := by
  unfold Boxes at h ⊢
  simp [World.setCell, Array.getElem?_modify, h]
theorem box_sets {W : World} {B : Nat} {t : TypeId} {u0 u1 u2 : Value} (h : Boxes W B t #[u0, u1, u2]) (v0 v1 v2 : Value) : Boxes (((W.setCell ⟨B, 0, none⟩ v0).setCell ⟨B, 1, none⟩ v1).setCell ⟨B, 2, none⟩ v2) B t #[v0, v1, v2] := box_set2 (box_set1 (box_set0 h v0) v1) v2
theorem own_setb {W : World} {base B o : Nat} {p : Int} {v : Value} {us : List Value} {zss : List (List Int)} (h : OwnG W base p v us zss) {vs : Array Value} (hx : Boxes W B 78 vs) (u : Value) : OwnG (W.setCell ⟨B, o, none⟩ u) base p v us zss := ⟨row_setb h.row hx.is (by decide) u, h.rows.map fun _ _ k => row_setb k hx.is (by decide) u⟩
theorem own_sets {W : World} {base B : Nat} {p : Int} {v : Value} {us : List Value} {zss : List (List Int)} {u0 u1 u2 : Value} (h : OwnG W base p v us zss) (hx : Boxes W B 78 #[u0, u1, u2]) (v0 v1 v2 : Value) : OwnG (((W.setCell ⟨B, 0, none⟩ v0).setCell ⟨B, 1, none⟩ v1).setCell ⟨B, 2, none⟩ v2) base p v us zss := own_setb (own_setb (own_setb h hx v0) (box_set0 hx v0) v1) (box_set1 (box_set0 hx v0) v1) v2
theorem below_sets {W W' : World} {base B : Nat} (h : Below base W W') (hB : base ≤ B) (v0 v1 v2 : Value) : Below base W (((W'.setCell ⟨B, 0, none⟩ v0).setCell ⟨B, 1, none⟩ v1).setCell ⟨B, 2, none⟩ v2) := ((h.setCell (p := ⟨B, 0, none⟩) hB v0).setCell (p := ⟨B, 1, none⟩) hB v1).setCell (p := ⟨B, 2, none⟩) hB v2

theorem sh_alloc_b (W w8 : World) (vs : Array Value) (t : TypeId) (hb : Below (W.alloc (.cells vs t)).drew.heap.size (W.alloc (.cells vs t)).drew w8) : Boxes w8 W.heap.size t vs := Boxes.step (Boxes.step (World.alloc_heap_new W _) (drew_step _)) hb
theorem sh_b1 (W w8 : World) (hb : Below W.drew.heap.size W.drew w8) : Below W.heap.size W w8 := (drew_step W).trans hb
theorem sh_b2 (W w8 : World) (o : Obj) (hb : Below (W.alloc o).drew.heap.size (W.alloc o).drew w8) : Below W.heap.size W w8 := (((Below.refl _ _).alloc (Nat.le_refl _) o).drew).trans (hb.mono (by simp))

/-- A list's elements and blinds, as two rows. -/
theorem sh_rows {W : World} {b g cb : Nat} {ab : Option Addr} {x : Int} {bl : List Int} (h0 : W.cell? ⟨b, 0, none⟩ = some (.slice (some ⟨g, 0, none⟩) 1 1)) (h1 : W.cell? ⟨b, 1, none⟩ = some (.slice ab bl.length cb)) (hx : W.cell? ⟨g, 0, none⟩ = some (.int .i64 x)) (hb : Ints W ab bl) : Rows2 W (some ⟨b, 0, none⟩) [[x], bl] := by
  refine .inr ⟨b, 0, rfl, fun i hi => ?_⟩
  match i, hi with
  | 0, _ =>
    refine ⟨some ⟨g, 0, none⟩, 1, h0, .inr ⟨g, 0, rfl, fun j hj => ?_⟩⟩
    have : j = 0 := by simpa [nthL] using hj
    subst this
    simpa [nthL, nth] using hx
  | 1, _ => exact ⟨ab, cb, h1, hb⟩
theorem sh_rows1 {W : World} {b cb : Nat} {aa : Option Addr} {zs : List Int} (h0 : W.cell? ⟨b, 0, none⟩ = some (.slice aa zs.length cb)) (hb : Ints W aa zs) : Rows2 W (some ⟨b, 0, none⟩) [zs] := by
  refine .inr ⟨b, 0, rfl, fun i hi => ?_⟩
  match i, hi with
  | 0, _ => exact ⟨aa, cb, h0, hb⟩
theorem sh_flat (x : Int) (bl : List Int) : [[x], bl].flatten = x :: bl := by simp
theorem bx0 (W w8 : World) (vs : Array Value) (t : TypeId) (o1 o2 : Obj) (hb : Below (((W.alloc (.cells vs t)).alloc o1).alloc o2).drew.heap.size (((W.alloc (.cells vs t)).alloc o1).alloc o2).drew w8) : Boxes w8 W.heap.size t vs := Boxes.step (Boxes.step (Boxes.step (Boxes.step (World.alloc_heap_new W _) (alx_b _ o1)) (alx_b _ o2)) (drew_step _)) hb
theorem bx1 (W w8 : World) (vs : Array Value) (t : TypeId) (o1 o2 : Obj) (hb : Below (((W.alloc o1).alloc (.cells vs t)).alloc o2).drew.heap.size (((W.alloc o1).alloc (.cells vs t)).alloc o2).drew w8) : Boxes w8 (W.heap.size + 1) t vs := by
  have h := Boxes.step (Boxes.step (Boxes.step (World.alloc_heap_new (W.alloc o1) (.cells vs t)) (alx_b _ o2)) (drew_step _)) hb
  simpa only [World.size_alloc] using h
theorem bx2 (W w8 : World) (vs : Array Value) (t : TypeId) (o1 o2 : Obj) (hb : Below (((W.alloc o1).alloc o2).alloc (.cells vs t)).drew.heap.size (((W.alloc o1).alloc o2).alloc (.cells vs t)).drew w8) : Boxes w8 (W.heap.size + 2) t vs := by
  have h := Boxes.step (Boxes.step (World.alloc_heap_new ((W.alloc o1).alloc o2) (.cells vs t)) (drew_step _)) hb
  simpa only [World.size_alloc] using h
theorem by0 (W w8 : World) (vs : Array Value) (t : TypeId) (o1 : Obj) (hb : Below ((W.alloc (.cells vs t)).alloc o1).heap.size ((W.alloc (.cells vs t)).alloc o1) w8) : Boxes w8 W.heap.size t vs := Boxes.step (Boxes.step (World.alloc_heap_new W _) (alx_b _ o1)) hb
theorem by1 (W w8 : World) (vs : Array Value) (t : TypeId) (o1 : Obj) (hb : Below ((W.alloc o1).alloc (.cells vs t)).heap.size ((W.alloc o1).alloc (.cells vs t)) w8) : Boxes w8 (W.heap.size + 1) t vs := by
  have h := Boxes.step (World.alloc_heap_new (W.alloc o1) (.cells vs t)) hb
  simpa only [World.size_alloc] using h
theorem own_g0 {W : World} {base : Nat} {p : Int} {v : Value} {us : List Value} {zs : List Int} (h : OwnG W base p v us [zs]) : ∃ a c, v = .slice a 1 c := h.form

set_option maxRecDepth 100000 in
set_option maxHeartbeats 4000000 in
theorem implSh_any (h f l : Int) (ao : Option Addr) (yo : List Int) (co : Nat) (a : Option Addr) (z : List (List Int)) (c : Nat) (x : Int) (ab : Option Addr) (bl : List Int) (cb : Nat) (w : World) (hr : InS w ao yo a z) (hl : LenS yo z) (hb : Ints w ab bl) (hbl : bl.length ≤ 9223372036854775807) :
    Calls Try.prog 19 #[.agg #[.int .i64 h, .slice ao yo.length co, .int .i64 f, .int .i64 l, .slice a z.length c], .int .i64 x, .slice ab bl.length cb] w (GivesIntsCode w (shZs h f l yo z x bl) (shCode h f l yo z x bl)) := by
  have HL := Lib.hid hl
  have hb1 := (Below.refl w.heap.size w).alloc (Nat.le_refl _) (.cells #[.int .i64 h, .slice ao yo.length co, .int .i64 f, .int .i64 l, .slice a z.length c] 33)
  have HX := Lib.hid (show Boxes (w.alloc (.cells #[.int .i64 h, .slice ao yo.length co, .int .i64 f, .int .i64 l, .slice a z.length c] 33)) w.heap.size 33 #[.int .i64 h, .slice ao yo.length co, .int .i64 f, .int .i64 l, .slice a z.length c] from World.alloc_heap_new w _)
  have HB1 := Lib.hid hb1
  have HR := Lib.hid (hr.step hb1)
  have HBL := Lib.hid (hb.below hb1 (Nat.le_refl _))
  clear hr hl hb1 hb
  cases hf : tell (SchOk h yo f l z) with
  | false =>
    have HV := Lib.hid (fun (α : Type) (b r o : α) => sh_bad (x := x) (bl := bl) hf b r o)
    have HF := Lib.hid hf
    clear hf
    go_enter Try.func19, Try.ntmps19
    go_wp2_with fail
    refine (implVs_any h f l ao yo co a z c _ HR.out HL.out).mono ?_
    generalize w.alloc (.cells #[.int .i64 h, .slice ao yo.length co, .int .i64 f, .int .i64 l, .slice a z.length c] 33) = w1 at *
    rintro e w' ⟨rfl, hq⟩
    rw [HF.out]
    have hb2 := chain HB1.out hq
    clear hq
    go_wp2_with fail
    go_ret2
    refine ⟨⟨_, by rw [shCode, HV.out]; rfl, ?_⟩, hb2⟩
    rw [shZs, HV.out]
    exact OwnI.nil _ _
  | true =>
    have hok := of_tell hf
    have hf0 : 2 ≤ f := hok.2.1.1.1
    have hf1 : f ≤ 31 := hok.2.1.1.2.1
    have hl0 : 1 ≤ l := hok.2.2.1
    have hl12 : l ≤ 12 := hok.2.1.2.1.2
    have HF := Lib.hid hf
    have HO := Lib.hid hok
    have HSM := Lib.hid (matr_small2 hok.2.1)
    clear hf hok
    go_enter Try.func19, Try.ntmps19
    go_upto_region 3 with (fail)
    refine (implVs_any h f l ao yo co a z c _ HR.out HL.out).mono ?_
    generalize w.alloc (.cells #[.int .i64 h, .slice ao yo.length co, .int .i64 f, .int .i64 l, .slice a z.length c] 33) = w1 at *
    rintro e w3 ⟨rfl, hq⟩
    rw [HF.out]
    have HB3 := Lib.hid (chain HB1.out hq)
    have HR3 := Lib.hid (HR.out.step hq)
    have HBL3 := Lib.hid (HBL.out.below hq (Nat.le_refl _))
    have HX3 := Lib.hid (HX.out.step hq)
    have c2 := HX3.out.s2
    have c3 := HX3.out.s3
    have c4 := HX3.out.s4
    have hlt := HX3.out.lt
    clear hq HX HR HB1 HBL
    have hsz := HB3.out.size
    go_wp2_with fail
    go_cut [8, 9] from 14 to 19 (fun s8 s9 wr => ∃ (q : Nat) (va : Option Addr) (vc : Nat) (us : List Value), s8 = .int .i64 f ∧ s9 = .pointer (some ⟨q, 0, none⟩) ∧ Boxes wr q 78 #[.slice va z.length vc, .int .i64 f, .int .i64 l] ∧ OwnG wr w3.heap.size f (.slice va z.length vc) us z ∧ Below w.heap.size w wr ∧ Below w3.heap.size w3 wr)
    case first =>
      go_region_law (first | (go_simp; go_at_call 61; refine (gridOf_any f l a z c _ (by first | exact HR3.out.r | exact HR3.out.r.below (Below.refl _ _).drew (Nat.le_refl _) | exact HR3.out.r.below ((Below.refl _ _).drew.alloc (by simp) _) (Nat.le_refl _) | exact HR3.out.r.below ((Below.refl _ _).alloc (by simp) _) (Nat.le_refl _)) HSM.out).mono ?_; rintro e w8 ⟨⟨v8, us, rfl, ho8⟩, hb8⟩; obtain ⟨va, vc, rfl⟩ := ho8.form; have HB38 := Lib.hid (show Below w3.heap.size w3 w8 by first | exact sh_b1 _ _ hb8 | exact sh_b2 _ _ _ hb8); have hx8 := HX3.out.step HB38.out; have d2 := hx8.s2; have d3 := hx8.s3; have d4 := hx8.s4; have dl := hx8.lt; (first | (have HQ8 : Boxes w8 w3.heap.size 78 #[.slice none 0 0, .int .i64 0, .int .i64 0] := sh_alloc_b _ _ _ _ hb8; have q0 := HQ8.m0; have q1 := HQ8.m1; have q2 := HQ8.m2; have qf0 := HQ8.frozen 0; have qf1 := HQ8.frozen 1; have qf2 := HQ8.frozen 2; have ql := HQ8.lt; have HK8 := Lib.hid HQ8; clear HQ8) | skip); have HO8 := Lib.hid ho8; clear hb8 ho8 hx8))
      all_goals (
        go_wp2_with fail
        go_meet
        first
          | exact ⟨w3.heap.size, va, vc, us, rfl, rfl, box_sets HK8.out _ _ _, (own_sets HO8.out HK8.out _ _ _).mono (by simp), below_sets (HB3.out.trans (HB38.out.mono hsz)) hsz _ _ _, below_sets HB38.out (Nat.le_refl _) _ _ _⟩
          | exact ⟨w8.heap.size, va, vc, us, rfl, rfl, World.alloc_heap_new w8 _, (HO8.out.step ((Below.refl _ _).alloc (Nat.le_refl _) _)).mono (by simp), (HB3.out.trans (HB38.out.mono hsz)).alloc (Nat.le_of_lt dl) _, HB38.out.alloc HB38.out.size _⟩)
    case rest =>
      obtain ⟨q, va, vc, us, rfl, rfl, hbq, hog, hbw, hb3⟩ := hcut
      obtain ⟨wD, hwD⟩ : ∃ W : World, W = wc := ⟨_, rfl⟩
      subst hwD
      have HQ := Lib.hid hbq
      have HG := Lib.hid hog
      have HW := Lib.hid hbw
      have HBD := Lib.hid (HBL3.out.below hb3 (Nat.le_refl _))
      have g2 := hbq.m2
      have gl := hbq.lt
      have hszD := hbw.size
      clear hbq hog hbw hb3 HR3 HX3 c2 c3 c4 hlt hsz HBL3 HB3
      by_cases hlen : (bl.length : Int) = l - 1
      case neg =>
        have hne : ((bl.length : Int) != l - 1) = true := by simp; exact hlen
        have HV := Lib.hid (fun (α : Type) (b r o : α) => sh_rng (x := x) (bl := bl) HF.out (fun k => hlen k.2.1) b r o)
        clear hlen
        go_wp2_with fail
        go_ret2
        refine ⟨⟨_, by rw [shCode, HV.out]; rfl, ?_⟩, HW.out⟩
        rw [shZs, HV.out]
        exact OwnI.nil _ _
      have hne : ((bl.length : Int) != l - 1) = false := by simp; exact hlen
      have HLE := Lib.hid hlen
      clear hlen
      go_wp2_with fail
      have HOX := Lib.hid (show OwnI (wD.alloc (.cells #[.int .i64 x] 2)) wD.heap.size (.slice (some ⟨wD.heap.size, 0, none⟩) 1 1) [x] from World.ownsRow_lit wD #[.int .i64 x] 1 (Nat.le_refl _) (by unfold maxLen; omega) rfl)
      refine (areElems_any f (some ⟨wD.heap.size, 0, none⟩) [x] 1 _ (Ints_of_own HOX.out) (by simp)).mono ?_
      rintro e w' ⟨rfl, rfl⟩
      have HQE := Lib.hid (HQ.out.step (alx_b wD (.cells #[.int .i64 x] 2)))
      have HGE := Lib.hid (HG.out.step (alx_b wD (.cells #[.int .i64 x] 2)))
      have HBE := Lib.hid (HBD.out.below (alx_b wD (.cells #[.int .i64 x] 2)) (Nat.le_refl _))
      have HWE := Lib.hid (HW.out.alloc hszD (.cells #[.int .i64 x] 2))
      by_cases hx : Elem f x
      case neg =>
        have HT := Lib.hid (tell_false (p := Elems f [x] ∧ Prm f) fun k => hx (k.1 0 (by simp)))
        have HV := Lib.hid (fun (α : Type) (b r o : α) => sh_rng (x := x) (bl := bl) HF.out (fun k => hx k.1) b r o)
        clear hx
        rw [HT.out]
        go_wp2_with fail
        go_ret2
        refine ⟨⟨_, by rw [shCode, HV.out]; rfl, ?_⟩, HWE.out⟩
        rw [shZs, HV.out]
        exact OwnI.nil _ _
      have HT := Lib.hid (tell_true (p := Elems f [x] ∧ Prm f) ⟨fun i hi => by
        have : i = 0 := by simpa using hi
        subst this
        exact hx, HO.out.2.1.1⟩)
      have HE := Lib.hid hx
      clear hx
      rw [HT.out]
      generalize wD.alloc (.cells #[.int .i64 x] 2) = wE at *
      have g2 := HQE.out.m2
      have gl := HQE.out.lt
      have hszE := HWE.out.size
      go_wp2_with fail
      refine (areElems_any f ab bl cb _ HBE.out hbl).mono ?_
      rintro e w' ⟨rfl, rfl⟩
      by_cases hw : Elems f bl
      case neg =>
        have HT2 := Lib.hid (tell_false (p := Elems f bl ∧ Prm f) fun k => hw k.1)
        have HV := Lib.hid (fun (α : Type) (b r o : α) => sh_rng (x := x) (bl := bl) HF.out (fun k => hw k.2.2) b r o)
        clear hw
        rw [HT2.out]
        go_wp2_with fail
        go_ret2
        refine ⟨⟨_, by rw [shCode, HV.out]; rfl, ?_⟩, HWE.out⟩
        rw [shZs, HV.out]
        exact OwnI.nil _ _
      have HT2 := Lib.hid (tell_true (p := Elems f bl ∧ Prm f) ⟨hw, HO.out.2.1.1⟩)
      have HEB := Lib.hid hw
      have HV := Lib.hid (fun (α : Type) (b r o : α) => sh_ok (x := x) (bl := bl) HF.out ⟨HE.out, HLE.out, hw⟩ b r o)
      clear hw
      rw [HT2.out]
      clear HT HT2 HOX HQ HG HBD HW hszD hne
      go_wp2_with fail
      have HLN := Lib.hid (show ∀ r, r < [[x], bl].length → (nthL [[x], bl] r).length ≤ 1000 from fun r hr => by
        match r, hr with
        | 0, _ => simp [nthL]
        | 1, _ => show bl.length ≤ 1000; have := HLE.out; omega)
      have HSL := Lib.hid (show Small2 [x :: bl] from ⟨by simp, fun r hr => by
        match r, hr with
        | 0, _ => show (x :: bl).length ≤ 1048576; have := HLE.out; simp; omega⟩)
      have gl1 : q < wE.heap.size + 1 := by omega
      have gl2 : q < wE.heap.size + 1 + 1 := by omega
      go_cut [10] from 39 to 48 (fun s10 wr => ∃ (q2 : Nat) (vb : Option Addr) (vd : Nat) (us2 : List Value), s10 = .pointer (some ⟨q2, 0, none⟩) ∧ Boxes wr q2 78 #[.slice vb 1 vd, .int .i64 f, .int .i64 l] ∧ OwnG wr wE.heap.size f (.slice vb 1 vd) us2 [x :: bl] ∧ Below wE.heap.size wE wr)
      case first =>
        go_region_law (first | (go_simp; go_at_call 64; refine (concat_any _ [[x], bl] 2 _ (by first | (refine sh_rows (cb := cb) (ab := ab) (g := wE.heap.size) ?_ ?_ ?_ (HBE.out.below (B := wE.heap.size) (by repeat (first | exact Below.refl _ _ | refine Below.drew ?_ | refine Below.alloc ?_ (by simp <;> omega) _)) (Nat.le_refl _)) <;> (go_simp; done)) | (refine sh_rows (cb := cb) (ab := ab) (g := wE.heap.size + 1) ?_ ?_ ?_ (HBE.out.below (B := wE.heap.size) (by repeat (first | exact Below.refl _ _ | refine Below.drew ?_ | refine Below.alloc ?_ (by simp <;> omega) _)) (Nat.le_refl _)) <;> (go_simp; done))) (by simp) HLN.out).mono ?_; rintro e w8 ⟨⟨v8, rfl, ho8⟩, hb8⟩; have HO8 := Lib.hid (show OwnI w8 wE.heap.size v8 (x :: bl) from by (have h := ho8; rw [sh_flat] at h; exact ownsRow_mono h (by simp <;> omega))); obtain ⟨aa, ca, hv8⟩ := rowForm HO8.out; rw [List.length_cons] at hv8; subst hv8; have HB8 := Lib.hid (show Below wE.heap.size wE w8 from Below.trans (by repeat (first | exact Below.refl _ _ | refine Below.drew ?_ | refine Below.alloc ?_ (by simp <;> omega) _)) (hb8.mono (by simp <;> omega))); have e2 := (HQE.out.step HB8.out).m2; have el := (HQE.out.step HB8.out).lt; have el1 : q < w8.heap.size + 1 := Nat.lt_succ_of_lt el; (first | have HK8 := Lib.hid (bx0 _ _ #[.slice none 0 0, .int .i64 0, .int .i64 0] _ _ _ hb8) | have HK8 := Lib.hid (bx1 _ _ #[.slice none 0 0, .int .i64 0, .int .i64 0] _ _ _ hb8) | have HK8 := Lib.hid (bx2 _ _ #[.slice none 0 0, .int .i64 0, .int .i64 0] _ _ _ hb8) | skip); clear ho8 hb8) | (go_simp; go_at_call 63; refine (gridOfLists_any f l _ [x :: bl] 1 _ (sh_rows1 (zs := x :: bl) (cb := ca) (aa := aa) (by rw [List.length_cons]; go_simp) ((Ints_of_own HO8.out).below (B := w8.heap.size) (by repeat (first | exact Below.refl _ _ | refine Below.drew ?_ | refine Below.alloc ?_ (by simp <;> omega) _)) (Nat.le_refl _))) HSL.out).mono ?_; rintro e w9 ⟨⟨v9, us9, rfl, ho9⟩, hb9⟩; obtain ⟨vb, vd, hv9⟩ := own_g0 ho9; subst hv9; have HB89 := Lib.hid (show Below w8.heap.size w8 w9 from Below.trans (by repeat (first | exact Below.refl _ _ | refine Below.drew ?_ | refine Below.alloc ?_ (by simp <;> omega) _)) (hb9.mono (by simp <;> omega))); have HB9 := Lib.hid (HB8.out.trans (HB89.out.mono HB8.out.size)); have HO9 := Lib.hid (show OwnG w9 wE.heap.size f (.slice vb 1 vd) us9 [x :: bl] from ho9.mono (by have := HB8.out.size; simp <;> omega)); have j2 := (HQE.out.step HB9.out).m2; have jl := (HQE.out.step HB9.out).lt; (first | have HK9 := Lib.hid (HK8.out.step HB89.out) | have HK9 := Lib.hid (by0 _ _ #[.slice none 0 0, .int .i64 0, .int .i64 0] _ _ hb9) | have HK9 := Lib.hid (by1 _ _ #[.slice none 0 0, .int .i64 0, .int .i64 0] _ _ hb9) | skip); (first | (have k0 := HK9.out.m0; have k1 := HK9.out.m1; have k2 := HK9.out.m2; have kf0 := HK9.out.frozen 0; have kf1 := HK9.out.frozen 1; have kf2 := HK9.out.frozen 2; have kl := HK9.out.lt) | skip); clear ho9 hb9))
        all_goals (
          go_wp2_with fail
          go_meet
          first
            | exact ⟨_, vb, vd, us9, rfl, box_sets HK9.out _ _ _, own_sets HO9.out HK9.out _ _ _, below_sets HB9.out (by have := HB8.out.size; omega) _ _ _⟩
            | exact ⟨w9.heap.size, vb, vd, us9, rfl, World.alloc_heap_new w9 _, HO9.out.step ((Below.refl _ _).alloc (Nat.le_refl _) _), HB9.out.alloc HB9.out.size _⟩)
      case rest =>
        obtain ⟨q2, vb, vd, us2, rfl, hb2, hog2, hbw2⟩ := hcut
        obtain ⟨wF, hwF⟩ : ∃ W : World, W = wc := ⟨_, rfl⟩
        subst hwF
        obtain ⟨n, hn⟩ : ∃ n : Nat, l = (n : Int) := ⟨l.toNat, by omega⟩
        subst hn
        have hn12 : n ≤ 12 := by omega
        have HRZ := Lib.hid (show ∀ r, r < z.length → (nthL z r).length = n ∧ Elems f (nthL z r) from fun r hr => ⟨by have := (HO.out.2.1.2.2.2 r hr).1; omega, (HO.out.2.1.2.2.2 r hr).2⟩)
        have hz20 : z.length ≤ 20 := HO.out.2.1.2.2.1
        have HR1 := Lib.hid (show ∀ r, r < [x :: bl].length → (nthL [x :: bl] r).length = n ∧ Elems f (nthL [x :: bl] r) from fun r hr => by
          match r, hr with
          | 0, _ =>
            refine ⟨by show (x :: bl).length = n; have := HLE.out; simp; omega, fun i hi => ?_⟩
            cases i with
            | zero => exact HE.out
            | succ i => exact HEB.out i (by simpa [nthL] using hi))
        obtain ⟨pz, hpz⟩ : ∃ pz, prod [x :: bl] (turned z n) f n z.length = pz := ⟨_, rfl⟩
        have HPL := Lib.hid (show pz.length = 1 by rw [← hpz, prod_len]; rfl)
        have HP0 := Lib.hid (show nthL pz 0 = shTo f (n : Int) z x bl z.length by rw [← hpz]; exact sh_row0 f z x bl n)
        have HPS := Lib.hid (show Small2 pz from ⟨by rw [HPL.out]; omega, fun r hr => by
          have : r = 0 := by have := HPL.out; omega
          subst this
          rw [HP0.out, shTo_len]; omega⟩)
        have HPZ := Lib.hid hpz
        have HQ1 := Lib.hid (HQE.out.step hbw2)
        have HQ2 := Lib.hid hb2
        have HGA := Lib.hid (gridOf2 (HGE.out.step hbw2))
        have HGB := Lib.hid (gridOf2 hog2)
        have HWF := Lib.hid (HWE.out.trans (hbw2.mono hszE))
        have hszF := HWF.out.size
        have i0 := HQ1.out.m0
        have i1 := HQ1.out.m1
        have i2 := HQ1.out.m2
        have il := HQ1.out.lt
        have j0 := HQ2.out.m0
        have j1 := HQ2.out.m1
        have j2 := HQ2.out.m2
        have jl := HQ2.out.lt
        clear hb2 hog2 hbw2 hpz g2 gl hszE HLN HSL HBE HWE HQE HGE gl1 gl2
        go_wp2_with fail
        go_region_law (first
          | (go_simp; go_at_call 66; refine (transposed_any f n va vc z _ (by first | exact HGA.out | exact HGA.out.step (drew_step _)) (Nat.le_trans hz20 (by decide)) (Nat.le_trans hn12 (by decide)) (fun r hr => (HRZ.out r hr).1)).mono ?_; rintro e w8 ⟨⟨v8, us8, rfl, ho8⟩, hb8⟩; obtain ⟨a8, c8, hv8⟩ := ho8.form; subst hv8; have HG8 := Lib.hid (gridOf2 ho8); have HB8 := Lib.hid (show Below wF.heap.size wF w8 by first | exact hb8 | exact (drew_step _).trans hb8); have k0 := (HQ2.out.step HB8.out).m0; have k1 := (HQ2.out.step HB8.out).m1; have k2 := (HQ2.out.step HB8.out).m2; have kl := (HQ2.out.step HB8.out).lt; clear ho8 hb8)
          | (go_simp; go_at_call 65; refine (gtimesI_any f (n : Int) (z.length : Int) n z.length vb a8 vd c8 [x :: bl] (turned z n) _ rfl rfl hf0 hf1 (HGB.out.step HB8.out) HG8.out (show (1 : Nat) ≤ 1000 by decide) (Nat.le_trans hn12 (by decide)) (Nat.le_trans hz20 (by decide)) HR1.out (sh_tlen z n) (sh_trow HRZ.out)).mono ?_; rintro e w9 ⟨⟨v9, us9, rfl, ho9⟩, hb9⟩; rw [HPZ.out] at ho9; obtain ⟨a9, c9, hv9⟩ := ho9.form; subst hv9; have HG9 := Lib.hid (gridOf2 ho9); have HB9 := Lib.hid (HB8.out.trans (hb9.mono HB8.out.size)); have hfl := run_field_g (.slice a9 pz.length c9) f (z.length : Int); clear ho9 hb9)
          | (go_simp; go_at_call 67; refine (lists_any f a9 pz c9 _ HG9.out HPS.out).mono ?_; rintro e w10 ⟨⟨v10, us10, rfl, ho10⟩, hb10⟩; obtain ⟨g10, c10, ua, uc, hv10, hc10, hu10, hg10⟩ := sh_first ho10 HPL.out; subst hv10; have HB10 := Lib.hid (HB9.out.trans (hb10.mono HB9.out.size)); have HU := Lib.hid (ownsRow_mono hu10 HB9.out.size); clear ho10 hb10 hu10))
        all_goals (
          go_wp2_with fail
          go_ret2
          refine ⟨⟨_, by rw [shCode, HV.out]; rfl, ?_⟩, HWF.out.trans (HB10.out.mono hszF)⟩
          rw [shZs, HV.out, ← HP0.out]
          exact ownsRow_mono HU.out hszF)
end Go.Proofs.Ytekhjoenejgmaaa
