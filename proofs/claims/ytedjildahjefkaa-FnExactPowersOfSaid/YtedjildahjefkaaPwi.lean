/- PowersOf: what is to be answered; the program's function. -/
import Derived.Test.YtedjildahjefkaaInc
import Derived.Test.YtedjildahjefkaaGm
import Derived.Test.YtedjildahjefkaaPwr
import Derived.Test.YtedjildahjefkaaCp3
namespace Go.Proofs.Ytedjildahjefkaa
open Go.RowKit Go.Deep
set_option linter.unusedVariables false

def PwOk (p : Int) (pts : List Int) (cols : Int) : Prop := Prm p ∧ pts.length ≤ 20 ∧ (0 ≤ cols ∧ cols ≤ 12) ∧ Elems p pts
noncomputable def pwSel {α : Type} (p : Int) (pts : List Int) (cols : Int) (bad ok : α) : α := if tell (PwOk p pts cols) = true then ok else bad
theorem pw_bad {α : Type} {p cols : Int} {pts : List Int} (h : ¬ PwOk p pts cols) (b o : α) : pwSel p pts cols b o = b := by unfold pwSel; rw [tell_false h]; rfl
theorem pw_ok {α : Type} {p cols : Int} {pts : List Int} (h : PwOk p pts cols) (b o : α) : pwSel p pts cols b o = o := by unfold pwSel; rw [tell_true h]; rfl
/-- The powers of points. -/
def pows (p : Int) (pts : List Int) (n : Nat) : List (List Int) := tab pts.length n (fun r c => powOf p (nth pts r) c)
theorem pows_len (p : Int) (pts : List Int) (n : Nat) : (pows p pts n).length = pts.length := tab_len _ _ _
theorem pows_rlen (p : Int) (pts : List Int) (n : Nat) {r : Nat} (h : r < pts.length) : (nthL (pows p pts n) r).length = n := tab_rlen _ _ _ h
theorem pows_small {p cols : Int} {pts : List Int} (h : PwOk p pts cols) : Small2 (pows p pts cols.toNat) := ⟨by rw [pows_len]; have := h.2.1; omega, fun r hr => by rw [pows_len] at hr; rw [pows_rlen _ _ _ hr]; have := h.2.2.1; omega⟩
theorem pw_small (p : Int) (pts : List Int) (cols : Int) : Small2 (pwSel p pts cols [] (pows p pts cols.toNat)) := by
  by_cases h : PwOk p pts cols
  · rw [pw_ok h]; exact pows_small h
  · rw [pw_bad h]; exact ⟨by simp, fun r hr => absurd hr (Nat.not_lt_zero _)⟩
/-- What is there when i points have been taken. -/
def pwAt (p : Int) (pts : List Int) (i : Nat) : Nat → Nat → Int := fun r c => if r < i then powOf p (nth pts r) c else 0
theorem pwAt_step (p : Int) (pts : List Int) (i n : Nat) : tab pts.length n (chTo (pwAt p pts i) i n (fun j _ => powOf p (nth pts i) j)) = tab pts.length n (pwAt p pts (i + 1)) := by
  refine tab_ext fun r c hr hc => ?_
  unfold chTo pwAt
  by_cases e : r = i
  · subst e
    rw [if_pos ⟨rfl, hc⟩, if_pos (Nat.lt_succ_self _)]
  · rw [if_neg (fun q => e q.1)]
    by_cases e2 : r < i
    · rw [if_pos e2, if_pos (by omega)]
    · rw [if_neg e2, if_neg (by omega)]
theorem pwAt_start (p : Int) (pts : List Int) (n : Nat) : zs pts.length n = tab pts.length n (pwAt p pts 0) := by
  rw [zs_tab]
  refine tab_ext fun r c hr hc => ?_
  unfold pwAt; rw [if_neg (by omega)]
theorem pwAt_end (p : Int) (pts : List Int) (n : Nat) : tab pts.length n (pwAt p pts pts.length) = pows p pts n := by
  refine tab_ext fun r c hr hc => ?_
  unfold pwAt; rw [if_pos hr]

set_option maxRecDepth 100000 in
theorem pwFun_any (p a x : Int) (j q : Nat) (W : World) (hp : 2 ≤ p) (hp1 : p ≤ 31) (h : Boxes W q 78 #[.int .i64 p, .int .i64 a]) (ha : Elem p a) (hj : j ≤ 1000) :
    Calls Try.prog 59 #[.int .i64 j, .agg #[.int .i64 p, .int .i64 x], .pointer (some ⟨q, 0, none⟩)] W fun e w' => e = .returned (.agg #[.int .i64 p, .int .i64 (powOf p a j)]) ∧ Below W.heap.size W w' := by
  have HH := Lib.hid h
  have HA := Lib.hid ha
  have q0 := h.c0
  have q1 := h.c1
  have ql := h.lt
  have ql1 : q < W.heap.size + 1 := by omega
  clear h ha
  go_enter Try.func59, Try.ntmps59
  go_wp2_with fail
  have hb1 := ((Below.refl W.heap.size W).alloc (Nat.le_refl _) (.cells #[.int .i64 p, .int .i64 x] 78)).alloc (by simp) (.cells #[.int .i64 0, .int .i64 0] 78)
  have hx6 : Boxes ((W.alloc (.cells #[.int .i64 p, .int .i64 x] 78)).alloc (.cells #[.int .i64 0, .int .i64 0] 78)) (W.heap.size + 1) 78 #[.int .i64 0, .int .i64 0] := by
    have : Boxes ((W.alloc (.cells #[.int .i64 p, .int .i64 x] 78)).alloc (.cells #[.int .i64 0, .int .i64 0] 78)) (W.alloc (.cells #[.int .i64 p, .int .i64 x] 78)).heap.size 78 #[.int .i64 0, .int .i64 0] := World.alloc_heap_new _ _
    simp only [World.size_alloc] at this
    exact this
  have hs1 : ((W.alloc (.cells #[.int .i64 p, .int .i64 x] 78)).alloc (.cells #[.int .i64 0, .int .i64 0] 78)).heap.size = W.heap.size + 2 := by simp
  generalize (W.alloc (.cells #[.int .i64 p, .int .i64 x] 78)).alloc (.cells #[.int .i64 0, .int .i64 0] 78) = w2 at *
  have HX6 := Lib.hid hx6
  have HB1 := Lib.hid hb1
  clear hx6 hb1
  refine (power_any p a j _ hp hp1 HA.out hj).mono ?_
  rintro e w3 ⟨rfl, hb3⟩
  have hx := HX6.out.step hb3
  have z0 := hx.c0
  have z1 := hx.c1
  have zf0 := hx.frozen 0
  have zf1 := hx.frozen 1
  have zl := hx.lt
  have HB3 := Lib.hid (HB1.out.trans (hb3.mono (by omega)))
  clear hx hb3 q0 q1 ql ql1
  go_wp2_with fail
  refine bodyPost_ret (v := .agg #[.int .i64 p, .int .i64 (powOf p a j)]) (by simp [results, Try.results59, go_sem, z0, z1]) rfl ⟨rfl, ?_⟩
  exact (HB3.out.setCell (p := ⟨W.heap.size + 1, 0, none⟩) (Nat.le_add_right _ _) _).setCell (p := ⟨W.heap.size + 1, 1, none⟩) (Nat.le_add_right _ _) _
theorem pw_changes (g q n : Nat) (p a : Int) (row : Nat → Int) (hp : 2 ≤ p) (hp1 : p ≤ 31) (hn : n ≤ 1000) (ha : Elem p a) (hq : q ≠ g) :
    Changes g 59 #[.pointer (some ⟨q, 0, none⟩)] p n row (fun j _ => powOf p a j) (fun W => Boxes W q 78 #[.int .i64 p, .int .i64 a]) := by
  refine ⟨enters_of Try.func59 (by kernel_rfl) rfl, fun W W' k hb => k.step hb, fun W o u k => k.other3 hq, fun W j k hj => ?_⟩
  exact pwFun_any p a (row j) j q W hp hp1 k ha (by omega)
theorem OwnG.grid3 {W : World} {base n c : Nat} {p : Int} {a : Option Addr} {us : List Value} {zss : List (List Int)} (h : OwnG W base p (.slice a n c) us zss) : GridR W a p zss := by
  obtain ⟨a', c', e, hr⟩ := h.grid
  cases e
  exact hr
theorem OwnG.rlt3 {W : World} {base : Nat} {p : Int} {v : Value} {us : List Value} {zss : List (List Int)} (h : OwnG W base p v us zss) {r g n cap : Nat} (hu : us[r]? = some (.slice (some ⟨g, 0, none⟩) n cap)) : base ≤ g ∧ g < W.heap.size := by
  have hr : r < us.length := (List.getElem?_eq_some_iff.1 hu).1
  have hz : r < zss.length := by rw [← h.rows.len]; exact hr
  exact row_lt (h.rows.own r _ zss[r] hu (by simp [hz])) rfl
theorem zerosI_any (p m c : Int) (n cn : Nat) (w : World) (hm : m = (n : Int)) (hc : c = (cn : Int)) (hn : n ≤ 1000) (hcn : cn ≤ 1000) :
    Calls Try.prog 56 #[.int .i64 p, .int .i64 m, .int .i64 c] w fun e w' => (∃ v us, e = .returned (.agg #[v, .int .i64 p, .int .i64 c]) ∧ OwnG w' w.heap.size p v us (zs n cn)) ∧ Below w.heap.size w w' := by
  subst hm; subst hc; exact zeros_any p n cn w hn hcn
theorem matrixN_any (p c : Int) (a : Option Addr) (zss : List (List Int)) (n ca : Nat) (hn : n = zss.length) (w : World) (hr : GridR w a p zss) (hs : Small2 zss) :
    Calls Try.prog 51 #[.agg #[.slice a n ca, .int .i64 p, .int .i64 c]] w fun e w' => (∃ v us, e = .returned (.agg #[.int .i64 p, .int .i64 c, v]) ∧ Own w' w.heap.size v us zss) ∧ Below w.heap.size w w' := by subst hn; exact matrix_any p c a zss ca w hr hs

set_option maxRecDepth 100000 in
set_option maxHeartbeats 4000000 in
theorem implPw_any (p : Int) (ap : Option Addr) (pts : List Int) (cp : Nat) (cols : Int) (w : World) (hp : Ints w ap pts) (hl : pts.length ≤ 9223372036854775807) :
    Calls Try.prog 23 #[.int .i64 p, .slice ap pts.length cp, .int .i64 cols] w (GivesMY w (pwSel p pts cols 0 p) (pwSel p pts cols 0 cols) (pwSel p pts cols [] (pows p pts cols.toNat)) (pwSel p pts cols 2 0)) := by
  by_cases h20 : (20 : Int) < (pts.length : Int)
  · have HV := Lib.hid (fun (α : Type) (b o : α) => pw_bad (p := p) (pts := pts) (cols := cols) (fun k => by have := k.2.1; omega) b o)
    clear hp
    go_enter Try.func23, Try.ntmps23
    go_wp2_with fail
    refine bodyPost_ret (v := .tuple #[.agg #[.int .i64 0, .int .i64 0, .slice none 0 0], .int .i64 2]) (by simp [results, Try.results23, go_sem]) rfl ⟨⟨.slice none 0 0, [], by rw [HV.out, HV.out, HV.out], by rw [HV.out]; exact Own.nil3 _ _⟩, ?_⟩
    first | exact (Below.refl w.heap.size w).alloc (Nat.le_refl _) _ | go_grown
  have h20' : (pts.length : Int) ≤ 20 := by omega
  by_cases he : Elems p pts ∧ Prm p
  case neg =>
    have HT := Lib.hid (tell_false he)
    have HV := Lib.hid (fun (α : Type) (b o : α) => pw_bad (p := p) (pts := pts) (cols := cols) (fun k => he ⟨k.2.2.2, k.1⟩) b o)
    clear he
    have HI := Lib.hid hp
    clear hp
    go_enter Try.func23, Try.ntmps23
    go_wp2_with fail
    have hb1 := (Below.refl w.heap.size w).alloc (Nat.le_refl _) (.cells #[.int .i64 0, .int .i64 0, .slice none 0 0] 30)
    have HZ := Lib.hid (show Boxes (w.alloc (.cells #[.int .i64 0, .int .i64 0, .slice none 0 0] 30)) w.heap.size 30 #[.int .i64 0, .int .i64 0, .slice none 0 0] from World.alloc_heap_new _ _)
    have HB := Lib.hid hb1
    have hs1 : (w.alloc (.cells #[.int .i64 0, .int .i64 0, .slice none 0 0] 30)).heap.size = w.heap.size + 1 := by simp
    generalize w.alloc (.cells #[.int .i64 0, .int .i64 0, .slice none 0 0] 30) = w1 at *
    have r0 := HZ.out.m0
    have r1 := HZ.out.m1
    have r2 := HZ.out.m2
    have f0 := HZ.out.frozen 0
    have f1 := HZ.out.frozen 1
    have f2 := HZ.out.frozen 2
    have lz := HZ.out.lt
    have HI1 := Lib.hid (HI.out.below hb1 (Nat.le_refl _))
    clear hb1
    refine (areElems_any p ap pts cp _ HI1.out hl).mono ?_
    rintro e w' ⟨rfl, rfl⟩
    rw [HT.out]
    go_wp2_with fail
    refine bodyPost_ret (v := .tuple #[.agg #[.int .i64 0, .int .i64 0, .slice none 0 0], .int .i64 2]) (by simp [results, Try.results23, go_sem, r0, r1, r2]) rfl ⟨⟨.slice none 0 0, [], by rw [HV.out, HV.out, HV.out], by rw [HV.out]; exact Own.nil3 _ _⟩, (((HB.out.setCell (p := ⟨w.heap.size, 0, none⟩) (Nat.le_refl _) _).setCell (p := ⟨w.heap.size, 1, none⟩) (Nat.le_refl _) _).setCell (p := ⟨w.heap.size, 2, none⟩) (Nat.le_refl _) _)⟩
  have HT := Lib.hid (tell_true he)
  have HE := Lib.hid he
  clear he
  by_cases hc0 : cols < 0
  · have HV := Lib.hid (fun (α : Type) (b o : α) => pw_bad (p := p) (pts := pts) (cols := cols) (fun k => by have := k.2.2.1; omega) b o)
    have HI := Lib.hid hp
    clear hp
    go_enter Try.func23, Try.ntmps23
    go_wp2_with fail
    have hb1 := (Below.refl w.heap.size w).alloc (Nat.le_refl _) (.cells #[.int .i64 0, .int .i64 0, .slice none 0 0] 30)
    have HZ := Lib.hid (show Boxes (w.alloc (.cells #[.int .i64 0, .int .i64 0, .slice none 0 0] 30)) w.heap.size 30 #[.int .i64 0, .int .i64 0, .slice none 0 0] from World.alloc_heap_new _ _)
    have HB := Lib.hid hb1
    have hs1 : (w.alloc (.cells #[.int .i64 0, .int .i64 0, .slice none 0 0] 30)).heap.size = w.heap.size + 1 := by simp
    generalize w.alloc (.cells #[.int .i64 0, .int .i64 0, .slice none 0 0] 30) = w1 at *
    have r0 := HZ.out.m0
    have r1 := HZ.out.m1
    have r2 := HZ.out.m2
    have f0 := HZ.out.frozen 0
    have f1 := HZ.out.frozen 1
    have f2 := HZ.out.frozen 2
    have lz := HZ.out.lt
    have HI1 := Lib.hid (HI.out.below hb1 (Nat.le_refl _))
    clear hb1
    refine (areElems_any p ap pts cp _ HI1.out hl).mono ?_
    rintro e w' ⟨rfl, rfl⟩
    rw [HT.out]
    go_wp2_with fail
    refine bodyPost_ret (v := .tuple #[.agg #[.int .i64 0, .int .i64 0, .slice none 0 0], .int .i64 2]) (by simp [results, Try.results23, go_sem, r0, r1, r2]) rfl ⟨⟨.slice none 0 0, [], by rw [HV.out, HV.out, HV.out], by rw [HV.out]; exact Own.nil3 _ _⟩, (((HB.out.setCell (p := ⟨w.heap.size, 0, none⟩) (Nat.le_refl _) _).setCell (p := ⟨w.heap.size, 1, none⟩) (Nat.le_refl _) _).setCell (p := ⟨w.heap.size, 2, none⟩) (Nat.le_refl _) _)⟩
  by_cases hc1 : 12 < cols
  · have HV := Lib.hid (fun (α : Type) (b o : α) => pw_bad (p := p) (pts := pts) (cols := cols) (fun k => by have := k.2.2.1; omega) b o)
    have HI := Lib.hid hp
    clear hp
    go_enter Try.func23, Try.ntmps23
    go_wp2_with fail
    have hb1 := (Below.refl w.heap.size w).alloc (Nat.le_refl _) (.cells #[.int .i64 0, .int .i64 0, .slice none 0 0] 30)
    have HZ := Lib.hid (show Boxes (w.alloc (.cells #[.int .i64 0, .int .i64 0, .slice none 0 0] 30)) w.heap.size 30 #[.int .i64 0, .int .i64 0, .slice none 0 0] from World.alloc_heap_new _ _)
    have HB := Lib.hid hb1
    have hs1 : (w.alloc (.cells #[.int .i64 0, .int .i64 0, .slice none 0 0] 30)).heap.size = w.heap.size + 1 := by simp
    generalize w.alloc (.cells #[.int .i64 0, .int .i64 0, .slice none 0 0] 30) = w1 at *
    have r0 := HZ.out.m0
    have r1 := HZ.out.m1
    have r2 := HZ.out.m2
    have f0 := HZ.out.frozen 0
    have f1 := HZ.out.frozen 1
    have f2 := HZ.out.frozen 2
    have lz := HZ.out.lt
    have HI1 := Lib.hid (HI.out.below hb1 (Nat.le_refl _))
    clear hb1
    refine (areElems_any p ap pts cp _ HI1.out hl).mono ?_
    rintro e w' ⟨rfl, rfl⟩
    rw [HT.out]
    go_wp2_with fail
    refine bodyPost_ret (v := .tuple #[.agg #[.int .i64 0, .int .i64 0, .slice none 0 0], .int .i64 2]) (by simp [results, Try.results23, go_sem, r0, r1, r2]) rfl ⟨⟨.slice none 0 0, [], by rw [HV.out, HV.out, HV.out], by rw [HV.out]; exact Own.nil3 _ _⟩, (((HB.out.setCell (p := ⟨w.heap.size, 0, none⟩) (Nat.le_refl _) _).setCell (p := ⟨w.heap.size, 1, none⟩) (Nat.le_refl _) _).setCell (p := ⟨w.heap.size, 2, none⟩) (Nat.le_refl _) _)⟩
  have HOK := Lib.hid (show PwOk p pts cols from ⟨HE.out.2, by omega, ⟨by omega, by omega⟩, HE.out.1⟩)
  have HV := Lib.hid (fun (α : Type) (b o : α) => pw_ok HOK.out b o)
  have HCN := Lib.hid (show cols = (cols.toNat : Int) by omega)
  have hp2 : 2 ≤ p := HE.out.2.1
  have hp31 : p ≤ 31 := HE.out.2.2.1
  have HI := Lib.hid hp
  clear hp
  go_enter Try.func23, Try.ntmps23
  go_wp2_with fail
  have hb1 := (Below.refl w.heap.size w).alloc (Nat.le_refl _) (.cells #[.int .i64 0, .int .i64 0, .slice none 0 0] 30)
  have HZ := Lib.hid (show Boxes (w.alloc (.cells #[.int .i64 0, .int .i64 0, .slice none 0 0] 30)) w.heap.size 30 #[.int .i64 0, .int .i64 0, .slice none 0 0] from World.alloc_heap_new _ _)
  have HB := Lib.hid hb1
  have hs1 : (w.alloc (.cells #[.int .i64 0, .int .i64 0, .slice none 0 0] 30)).heap.size = w.heap.size + 1 := by simp
  generalize w.alloc (.cells #[.int .i64 0, .int .i64 0, .slice none 0 0] 30) = w1 at *
  have r0 := HZ.out.m0
  have r1 := HZ.out.m1
  have r2 := HZ.out.m2
  have f0 := HZ.out.frozen 0
  have f1 := HZ.out.frozen 1
  have f2 := HZ.out.frozen 2
  have lz := HZ.out.lt
  have HI1 := Lib.hid (HI.out.below hb1 (Nat.le_refl _))
  clear hb1
  refine (areElems_any p ap pts cp _ HI1.out hl).mono ?_
  rintro e w' ⟨rfl, rfl⟩
  rw [HT.out]
  go_wp2_with fail
  refine (zerosI_any p _ cols pts.length cols.toNat w1 rfl HCN.out (by omega) (by omega)).mono ?_
  rintro e w2 ⟨⟨v, us, rfl, ho⟩, hb2⟩
  obtain ⟨va, vc, rfl⟩ := ho.form
  rw [zs_len]
  have hs2 : w1.heap.size ≤ w2.heap.size := hb2.size
  have hb3 := (Below.refl w2.heap.size w2).alloc (Nat.le_refl _) (.cells #[.slice va pts.length vc, .int .i64 p, .int .i64 cols] 65)
  have HG := Lib.hid (show Boxes (w2.alloc (.cells #[.slice va pts.length vc, .int .i64 p, .int .i64 cols] 65)) w2.heap.size 65 #[.slice va pts.length vc, .int .i64 p, .int .i64 cols] from World.alloc_heap_new _ _)
  have hs3 : (w2.alloc (.cells #[.slice va pts.length vc, .int .i64 p, .int .i64 cols] 65)).heap.size = w2.heap.size + 1 := by simp
  have hb13 := hb2.trans (hb3.mono hs2)
  replace HZ := Lib.hid (HZ.out.step hb13)
  replace HB := Lib.hid (HB.out.trans (hb13.mono (by omega)))
  have HO := Lib.hid (show OwnG (w2.alloc (.cells #[.slice va pts.length vc, .int .i64 p, .int .i64 cols] 65)) (w.heap.size + 1) p (.slice va pts.length vc) us (tab pts.length cols.toNat (pwAt p pts 0)) by
    have h1 := ho.step hb3
    rw [hs1, pwAt_start p, tab_len] at h1
    exact h1)
  clear r0 r1 r2 f0 f1 f2 lz hb2 hb3 hb13 ho HI1 HT
  have hmf : ∀ (fn : Fn) (first cap : Array Value) (w : World), (Instr.makeFunc fn first cap).run Try.prog w = .ok (.func fn first cap) w := fun _ _ _ _ => rfl
  go_wp2_with fail
  generalize w2.alloc (.cells #[.slice va pts.length vc, .int .i64 p, .int .i64 cols] 65) = w3 at *
  generalize hq8 : w2.heap.size = q8 at *
  go_loopw [9, 10, 11, 37] (fun s9 s10 s11 qi wr => ∃ (i : Nat), i ≤ pts.length ∧ qi = .int .i64 i ∧ Boxes wr w.heap.size 30 #[.int .i64 0, .int .i64 0, .slice none 0 0] ∧ Boxes wr q8 65 #[.slice va pts.length vc, .int .i64 p, .int .i64 cols] ∧ OwnG wr (w.heap.size + 1) p (.slice va pts.length vc) us (tab pts.length cols.toNat (pwAt p pts i)) ∧ Below w.heap.size w wr)
    (fun _ _ _ qi _ => pts.length - (intOf qi).toNat)
  case atStart => exact ⟨0, Nat.zero_le _, rfl, HZ.out, HG.out, HO.out, HB.out⟩
  case round =>
    obtain ⟨i, hi, rfl, hz, hg, ho, hb⟩ := hrel
    have DZ := Lib.hid hz
    have DG := Lib.hid hg
    have DO := Lib.hid ho
    have DB := Lib.hid hb
    have g0 := hg.m0
    have g1 := hg.m1
    have g2 := hg.m2
    have gl := hg.lt
    clear hz hg ho hb HZ HG HO HB
    by_cases hlt : i < pts.length
    · have hi0 : (i : Int) < (pts.length : Int) := by omega
      rcases HI.out.below DB.out (Nat.le_refl _) with h | ⟨b, o, rfl, hc⟩
      · rw [h] at hlt; exact absurd hlt (Nat.not_lt_zero _)
      have hcell := hc i hlt
      have HEL := Lib.hid (HE.out.1 i hlt)
      clear hc
      go_wp2_with fail
      refine (number_any p (nth pts i) _).mono ?_
      rintro e w5 ⟨rfl, hb5⟩
      have hs5 : wr.heap.size ≤ w5.heap.size := hb5.size
      have hb6 := (Below.refl w5.heap.size w5).alloc (Nat.le_refl _) (.cells #[.int .i64 p, .int .i64 (nth pts i)] 78)
      have HX := Lib.hid (show Boxes (w5.alloc (.cells #[.int .i64 p, .int .i64 (nth pts i)] 78)) w5.heap.size 78 #[.int .i64 p, .int .i64 (nth pts i)] from World.alloc_heap_new _ _)
      have hs6 : (w5.alloc (.cells #[.int .i64 p, .int .i64 (nth pts i)] 78)).heap.size = w5.heap.size + 1 := by simp
      have hb56 := hb5.trans (hb6.mono hs5)
      have HZ6 := Lib.hid (DZ.out.step hb56)
      have HG6 := Lib.hid (DG.out.step hb56)
      have HO6 := Lib.hid (DO.out.step hb56)
      have HB6 := Lib.hid (DB.out.trans (hb56.mono DB.out.size))
      have HOL := Lib.hid (fun (g cap : Nat) (hu : us[i]? = some (.slice (some ⟨g, 0, none⟩) cols.toNat cap)) => (DO.out.rlt3 hu).2)
      have t0 := HG6.out.m0
      have tl := HG6.out.lt
      clear hb5 hb6 hb56 g0 g1 g2 gl hcell
      go_wp2_with fail
      generalize w5.alloc (.cells #[.int .i64 p, .int .i64 (nth pts i)] 78) = w6 at *
      generalize hq5 : w5.heap.size = q5 at *
      refine (changeRow_gen p va vc pts.length cols.toNat i (w.heap.size + 1) 59 _ us (pwAt p pts i) (fun j _ => powOf p (nth pts i) j) w6 HO6.out hlt (by omega) (by omega) (fun g cap hu hg hgl h0 => ⟨_, pw_changes g q5 _ p (nth pts i) _ hp2 hp31 (by omega) HEL.out (by have := HOL.out g cap hu; omega), HX.out⟩)).mono ?_
      rintro e w7 ⟨rfl, ho7, hb7, hs7, hbx7⟩
      have HO7 := Lib.hid (show OwnG w7 (w.heap.size + 1) p (.slice va pts.length vc) us (tab pts.length cols.toNat (pwAt p pts (i + 1))) by rw [← pwAt_step]; exact ho7)
      have HZ7 := Lib.hid (hbx7 w.heap.size 30 #[.int .i64 0, .int .i64 0, .slice none 0 0] (by decide) HZ6.out)
      have HG7 := Lib.hid (hbx7 q8 65 #[.slice va pts.length vc, .int .i64 p, .int .i64 cols] (by decide) HG6.out)
      have HB7 := Lib.hid (HB6.out.trans (hb7.mono (Nat.le_add_right _ _)))
      clear ho7 hb7 hs7 hbx7 t0 tl
      go_wp2_with fail
      go_roundw
      case rel => exact ⟨i + 1, by omega, by go_num, HZ7.out, HG7.out, HO7.out, HB7.out⟩
      case measure => simp [intOf]; omega
    · have HEX := Lib.hid (show i = pts.length by omega)
      have HO9 := Lib.hid (show OwnG wr (w.heap.size + 1) p (.slice va pts.length vc) us (pows p pts cols.toNat) by have := DO.out; rw [HEX.out, pwAt_end] at this; exact this)
      go_wp2_with fail
      refine (matrixN_any p cols va (pows p pts cols.toNat) _ vc (pows_len _ _ _).symm wr HO9.out.grid3 (pows_small HOK.out)).mono ?_
      rintro e w9 ⟨⟨v9, us9, rfl, ho9⟩, hb9⟩
      obtain ⟨ma, mc, rfl⟩ := ho9.form
      have HOM := Lib.hid ho9
      have hz9 := DZ.out.step hb9
      have HB9 := Lib.hid (DB.out.trans (hb9.mono DB.out.size))
      have hlr := DZ.out.lt
      have r0 := hz9.m0
      have r1 := hz9.m1
      have r2 := hz9.m2
      have f0 := hz9.frozen 0
      have f1 := hz9.frozen 1
      have f2 := hz9.frozen 2
      have lz := hz9.lt
      clear hz9 ho9 hb9 g0 g1 g2 gl
      go_wp2_with fail
      refine bodyPost_ret (v := .tuple #[.agg #[.int .i64 p, .int .i64 cols, .slice ma (pows p pts cols.toNat).length mc], .int .i64 0]) (by simp [results, Try.results23, go_sem, r0, r1, r2]) rfl ⟨⟨_, us9, by rw [HV.out, HV.out, HV.out], ?_⟩, ?_⟩
      · rw [HV.out]
        exact (((HOM.out.setCell3 (p := ⟨w.heap.size, 0, none⟩) (by show w.heap.size < wr.heap.size; omega) _).setCell3 (p := ⟨w.heap.size, 1, none⟩) (by show w.heap.size < wr.heap.size; omega) _).setCell3 (p := ⟨w.heap.size, 2, none⟩) (by show w.heap.size < wr.heap.size; omega) _).mono3 (by omega)
      · exact (((HB9.out.setCell (p := ⟨w.heap.size, 0, none⟩) (Nat.le_refl _) _).setCell (p := ⟨w.heap.size, 1, none⟩) (Nat.le_refl _) _).setCell (p := ⟨w.heap.size, 2, none⟩) (Nat.le_refl _) _)
end Go.Proofs.Ytedjildahjefkaa
