/- spread and tidyNode of the program. -/
import Derived.Test.YtjhggglaglpgfaaTy
import Derived.Deep.QuietTactic
namespace Go.Proofs.Ytjhggglaglpgfaa
open Go.RowKit Go.Deep
set_option linter.unusedVariables false
attribute [local go_sem ↓] Go.wp_at_zero Go.wp_at_succ

set_option maxRecDepth 100000 in
theorem needsOne_any (l : Int) (a : Option Addr) (n c : Nat) (w : World) :
    Calls Try.prog 53 #[.agg #[.int .i64 l, .slice a n c]] w fun e w' => e = .returned (.bool (l == 1)) ∧ Below w.heap.size w w' := by
  have HB := Lib.hid ((Below.refl w.heap.size w).alloc (Nat.le_refl _) (.cells #[.int .i64 l, .slice a n c] 68))
  go_enter Try.func53, Try.ntmps53
  go_wp2_with fail
  go_ret
  exact ⟨rfl, HB.out⟩
set_option maxRecDepth 100000 in
theorem needsAll_any (l : Int) (a : Option Addr) (n c : Nat) (w : World) (hn : n ≤ 1048576) :
    Calls Try.prog 55 #[.agg #[.int .i64 l, .slice a n c]] w fun e w' => e = .returned (.bool (l == (n : Int))) ∧ Below w.heap.size w w' := by
  have HB := Lib.hid ((Below.refl w.heap.size w).alloc (Nat.le_refl _) (.cells #[.int .i64 l, .slice a n c] 68))
  go_enter Try.func55, Try.ntmps55
  go_wp2_with fail
  go_ret
  exact ⟨rfl, HB.out⟩
/-- What chooses thresholds. -/
structure Picks (fid : FuncId) (P : Int → Nat → Bool) : Prop where
  enters : ∀ args w, (callFunc fid args).run Try.prog w = .ok (.enter fid args) w
  calls : ∀ (W : World) (l : Int) (a : Option Addr) (n c : Nat), n ≤ 1048576 → Calls Try.prog fid #[.agg #[.int .i64 l, .slice a n c]] W fun e w' => e = .returned (.bool (P l n)) ∧ Below W.heap.size W w'
theorem one_picks : Picks 53 (fun l _ => l == 1) := ⟨enters_of Try.func53 (by kernel_rfl) rfl, fun W l a n c _ => needsOne_any l a n c W⟩
theorem all_picks : Picks 55 (fun l n => l == (n : Int)) := ⟨enters_of Try.func55 (by kernel_rfl) rfl, fun W l a n c hn => needsAll_any l a n c W hn⟩
set_option maxRecDepth 100000 in
theorem assert_lt0 (x : Value) (w : World) : (Instr.typeAssert (.iface 62 x) 49 68 true).run Try.prog w = .ok (.tuple #[.agg #[.int .i64 0, .slice none 0 0], .bool false]) w := assert_lt x w

theorem tk_size : ∀ (f : Fo) (i : Nat), (f.tk i).size ≤ f.size
  | .nil, _ => Nat.le_refl _
  | .cons _ _ _ _, 0 => Nat.zero_le _
  | .cons h l k r, i + 1 => by have := tk_size r i; simp only [Fo.tk, Fo.size]; omega
set_option maxRecDepth 100000 in
set_option maxHeartbeats 4000000 in
theorem spread_any (f : Fo) (hf : f.size ≤ 1048576) (ok : Nat → Prop) (b o c : Nat) (fid : FuncId) (P : Int → Nat → Bool) (w : World) (hpos : 0 < f.len) (hob : ok b) (hna : NAt w ok f b o) (hP : Picks fid P) :
    Calls Try.prog 54 #[.slice (some ⟨b, o, none⟩) f.len c, .func (.func fid) #[] #[]] w fun e w' => (∃ g xc, e = .returned (.slice (some ⟨g, 0, none⟩) (f.spread P).len xc) ∧ w.heap.size ≤ g ∧ NAt w' (fun q => ok q ∨ w.heap.size ≤ q) (f.spread P) g 0) ∧ Below w.heap.size w w' := by
  have hlen := f.len_le
  have HE := hP.enters
  have HC := Lib.hid hP.calls
  have HNA := Lib.hid hna
  have HPOS := Lib.hid hpos
  have HSP := Lib.hid (Fo.spread_pos P f hpos)
  have ta1 := assert_tt
  have ta2 := assert_lt
  obtain ⟨i1, ji, jz0, jz1, jz2⟩ := info_parts Try.infoNode
  clear hP hna
  go_enter Try.func54, Try.ntmps54
  go_wp2_with fail
  go_loopw [5, 7, 8, 9, 12] (fun q5 _ _ _ i wr => ∃ (k : Nat) (xa : Option Addr) (xc : Nat) (xs : List Value), k ≤ f.len ∧ i = .int .i64 k ∧ q5 = .slice xa ((f.tk k).spread P).len xc ∧ wr.ownsRow w.heap.size 49 1 (.slice xa ((f.tk k).spread P).len xc) ((f.tk k).spread P).len xs ∧ NVs w ok ((f.tk k).spread P) ((f.tk k).spread P).len xs ∧ Below w.heap.size w wr)
    (fun _ _ _ _ i _ => f.len - (intOf i).toNat)
  case atStart => exact ⟨0, none, 0, [], Nat.zero_le _, rfl, by rw [f.tk_zero]; rfl, by rw [f.tk_zero]; exact World.ownsRow_nil _ _ _ _, fun j hj => by rw [f.tk_zero] at hj; exact absurd hj (Nat.not_lt_zero _), Below.refl _ _⟩
  case round =>
    obtain ⟨k, xa, xc, xs, hk, rfl, rfl, hown, hnv, hb⟩ := hrel
    have HO := Lib.hid hown
    have HNV := Lib.hid hnv
    have HB := Lib.hid hb
    clear hown hnv hb
    by_cases hlt : k < f.len
    · obtain ⟨v, h1, h2⟩ := HNA.out.get hlt
      have c0 := cell_step HB.out h1
      have hs := f.k_size hlt
      have hkl := (f.kAt k).len_le
      have hi0 : (k : Int) < (f.len : Int) := by omega
      have hsz := HB.out.size
      have hxl : xs.length = ((f.tk k).spread P).len := by have := HO.out.1; omega
      have hspl : ((f.tk k).spread P).len ≤ 1048576 := by
        have h1 := ((f.tk k).spread P).len_le
        have h2 := Fo.spread_size P (f.tk k)
        have h3 : (f.tk k).size ≤ f.size := tk_size f k
        omega
      rcases h2 with ⟨hgk, rfl⟩ | ⟨hne2, b', o', c', rfl, hob', hna'⟩
      · have HSM := Lib.hid (Fo.spread_miss P f hlt (by rw [hgk]; rfl))
        have HSL := Lib.hid (show ((f.tk (k + 1)).spread P).len = ((f.tk k).spread P).len + 1 by rw [HSM.out, Fo.app_len]; rfl)
        have HNN := Lib.hid (show NVs w ok ((f.tk (k + 1)).spread P) ((f.tk (k + 1)).spread P).len (xs ++ [.iface 62 (.agg #[.int .i64 (f.hAt k)])]) from by
          rw [HSM.out]
          refine NVs.app HNV.out hxl fun j hj => ?_
          obtain rfl : j = 0 := by simp [Fo.len] at hj; omega
          exact ⟨_, rfl, .inl ⟨hgk, rfl⟩⟩)
        clear hgk h1 hxl
        generalize f.hAt k = gh at *
        have hbx := (Below.refl wr.heap.size wr).alloc (Nat.le_refl _) (.cells #[.int .i64 0, .slice none 0 0] 68)
        have HOB := Lib.hid (row_step HO.out hbx)
        have HBB := Lib.hid (HB.out.trans (hbx.mono hsz))
        have hszb : w.heap.size ≤ (wr.alloc (.cells #[.int .i64 0, .slice none 0 0] 68)).heap.size := by simp; omega
        clear hbx
        go_wp2_with (at_builtin; refine wpList_append_own_at _ rfl _ _ 66 rfl w.heap.size 49 i1 .nilIface 1 16 Try.underlying66 ji jz0 jz1 jz2 rfl (by decide) (.slice xa ((f.tk k).spread P).len xc) ((f.tk k).spread P).len xs rfl (World.ownsRow.alloc HOB.out _) ⟨wr.heap.size + 1, 0, none⟩ 1 1 [.iface 62 (.agg #[.int .i64 gh])] rfl rfl (by have := cell_one_new (wr.alloc (.cells #[.int .i64 0, .slice none 0 0] 68)) (.iface 62 (.agg #[.int .i64 gh])) 49; simp only [World.size_alloc] at this; exact this) (by simp [Value.oneCell']) (by unfold maxLen; omega) (by omega) (by simp; omega) ?_; intro v' w9 hown9 hgrow9 _ _)
        have HB9 := Lib.hid ((HBB.out.alloc hszb (.cells #[.iface 62 (.agg #[.int .i64 gh])] 49)).grown hgrow9 (by simp; omega) (fun q hq => (ownN_lt HOB.out hq).1))
        obtain ⟨xa', xc', rfl⟩ := rowForm hown9
        have HO9 := Lib.hid hown9
        clear hown9 hgrow9
        go_wp2_with fail
        go_roundw
        case rel => exact ⟨k + 1, xa', xc', xs ++ [.iface 62 (.agg #[.int .i64 gh])], by omega, by go_num, by rw [HSL.out], by rw [HSL.out]; exact HO9.out, HNN.out, HB9.out⟩
        case measure => simp [intOf]; omega
      · have hkp : 0 < (f.kAt k).len := by
          cases hgg : f.kAt k with
          | nil => exact absurd hgg hne2
          | cons => exact Nat.succ_pos _
        have hkle : (f.kAt k).len ≤ 1048576 := by omega
        cases hp : P (f.lAt k) (f.kAt k).len with
        | false =>
        have HPV := Lib.hid hp
        have HSM := Lib.hid (Fo.spread_miss P f hlt (by rw [hp]; simp))
        have HSL := Lib.hid (show ((f.tk (k + 1)).spread P).len = ((f.tk k).spread P).len + 1 by rw [HSM.out, Fo.app_len]; rfl)
        have HNN := Lib.hid (show NVs w ok ((f.tk (k + 1)).spread P) ((f.tk (k + 1)).spread P).len (xs ++ [.iface 68 (.agg #[.int .i64 (f.lAt k), .slice (some ⟨b', o', none⟩) (f.kAt k).len c'])]) from by
          rw [HSM.out]
          refine NVs.app HNV.out hxl fun j hj => ?_
          obtain rfl : j = 0 := by simp [Fo.len] at hj; omega
          exact ⟨_, rfl, .inr ⟨hne2, b', o', c', rfl, hob', hna'⟩⟩)
        clear hp h1 hxl hna' hne2
        generalize f.hAt k = gh at *
        generalize f.lAt k = gl at *
        generalize f.kAt k = gk at *
        go_wp2_with fail
        refine (HC.out _ gl (some ⟨b', o', none⟩) gk.len c' hkle).mono ?_
        have hbx := (Below.refl wr.heap.size wr).alloc (Nat.le_refl _) (.cells #[.int .i64 gl, .slice (some ⟨b', o', none⟩) gk.len c'] 68)
        have hxb : Boxes (wr.alloc (.cells #[.int .i64 gl, .slice (some ⟨b', o', none⟩) gk.len c'] 68)) wr.heap.size 68 #[.int .i64 gl, .slice (some ⟨b', o', none⟩) gk.len c'] := World.alloc_heap_new _ _
        generalize wr.alloc (.cells #[.int .i64 gl, .slice (some ⟨b', o', none⟩) gk.len c'] 68) = w4 at *
        rintro e w5 ⟨rfl, hb5⟩
        have HOB := Lib.hid (row_step HO.out (hbx.trans (hb5.mono hbx.size)))
        have HBB := Lib.hid (HB.out.trans ((hbx.trans (hb5.mono hbx.size)).mono hsz))
        have hszb : w.heap.size ≤ w5.heap.size := HBB.out.size
        have hx5 := hxb.step hb5
        have z0 := hx5.n0
        have z1 := hx5.n1
        have zl := hx5.lt
        rw [HPV.out]
        clear hbx hb5 hxb hx5
        go_wp2_with (at_builtin; refine wpList_append_own_at _ rfl _ _ 66 rfl w.heap.size 49 i1 .nilIface 1 16 Try.underlying66 ji jz0 jz1 jz2 rfl (by decide) (.slice xa ((f.tk k).spread P).len xc) ((f.tk k).spread P).len xs rfl (World.ownsRow.alloc HOB.out _) ⟨w5.heap.size, 0, none⟩ 1 1 [.iface 68 (.agg #[.int .i64 gl, .slice (some ⟨b', o', none⟩) gk.len c'])] rfl rfl (cell_one_new _ _ _) (by simp [Value.oneCell']) (by unfold maxLen; omega) (by omega) (by simp; omega) ?_; intro v' w9 hown9 hgrow9 _ _)
        have HB9 := Lib.hid ((HBB.out.alloc hszb (.cells #[.iface 68 (.agg #[.int .i64 gl, .slice (some ⟨b', o', none⟩) gk.len c'])] 49)).grown hgrow9 (by simp; omega) (fun q hq => (ownN_lt HOB.out hq).1))
        obtain ⟨xa', xc', rfl⟩ := rowForm hown9
        have HO9 := Lib.hid hown9
        clear hown9 hgrow9
        go_wp2_with fail
        go_roundw
        case rel => exact ⟨k + 1, xa', xc', xs ++ [.iface 68 (.agg #[.int .i64 gl, .slice (some ⟨b', o', none⟩) gk.len c'])], by omega, by go_num, by rw [HSL.out], by rw [HSL.out]; exact HO9.out, HNN.out, HB9.out⟩
        case measure => simp [intOf]; omega
        | true =>
        have HPV := Lib.hid hp
        obtain ⟨ys, hy1, hy2, hy3⟩ := hna'.list
        have HSM := Lib.hid (Fo.spread_hit P f hlt hkp hp)
        have HSL := Lib.hid (show ((f.tk (k + 1)).spread P).len = ((f.tk k).spread P).len + (f.kAt k).len by rw [HSM.out, Fo.app_len])
        have HNN := Lib.hid (show NVs w ok ((f.tk (k + 1)).spread P) ((f.tk (k + 1)).spread P).len (xs ++ ys) from by
          rw [HSM.out]
          exact NVs.app HNV.out hxl hy2)
        have HY1 := Lib.hid (show ys.length = (f.kAt k).len * 1 by omega)
        have HY3 := Lib.hid hy3
        have HONE := Lib.hid (show ∀ u ∈ ys, u.oneCell' = true from fun u hu => by
          obtain ⟨j, hj, rfl⟩ := List.getElem_of_mem hu
          obtain ⟨u2, q1, q2⟩ := hy2 j (by omega)
          rw [List.getElem?_eq_getElem hj] at q1
          cases q1
          obtain ⟨t, x, e⟩ := q2.form
          rw [e]
          rfl)
        clear hp h1 hxl hna' hne2 hy1 hy2 hy3
        generalize f.hAt k = gh at *
        generalize f.lAt k = gl at *
        generalize f.kAt k = gk at *
        go_wp2_with fail
        refine (HC.out _ gl (some ⟨b', o', none⟩) gk.len c' hkle).mono ?_
        have hbx := (Below.refl wr.heap.size wr).alloc (Nat.le_refl _) (.cells #[.int .i64 gl, .slice (some ⟨b', o', none⟩) gk.len c'] 68)
        have hxb : Boxes (wr.alloc (.cells #[.int .i64 gl, .slice (some ⟨b', o', none⟩) gk.len c'] 68)) wr.heap.size 68 #[.int .i64 gl, .slice (some ⟨b', o', none⟩) gk.len c'] := World.alloc_heap_new _ _
        generalize wr.alloc (.cells #[.int .i64 gl, .slice (some ⟨b', o', none⟩) gk.len c'] 68) = w4 at *
        rintro e w5 ⟨rfl, hb5⟩
        have HOB := Lib.hid (row_step HO.out (hbx.trans (hb5.mono hbx.size)))
        have HBB := Lib.hid (HB.out.trans ((hbx.trans (hb5.mono hbx.size)).mono hsz))
        have hszb : w.heap.size ≤ w5.heap.size := HBB.out.size
        have hx5 := hxb.step hb5
        have z0 := hx5.n0
        have z1 := hx5.n1
        have zl := hx5.lt
        rw [HPV.out]
        clear hbx hb5 hxb hx5
        go_wp2_with (at_builtin; refine wpList_append_own_at _ rfl _ _ 66 rfl w.heap.size 49 i1 .nilIface 1 16 Try.underlying66 ji jz0 jz1 jz2 rfl (by decide) (.slice xa ((f.tk k).spread P).len xc) ((f.tk k).spread P).len xs rfl HOB.out ⟨b', o', none⟩ gk.len c' ys rfl HY1.out (fun j u hj => cell_step HBB.out (HY3.out j u hj)) HONE.out (by unfold maxLen; omega) (by omega) (by omega) ?_; intro v' w9 hown9 hgrow9 _ _)
        have HB9 := Lib.hid (HBB.out.grown hgrow9 (by omega) (fun q hq => (ownN_lt HOB.out hq).1))
        obtain ⟨xa', xc', rfl⟩ := rowForm hown9
        have HO9 := Lib.hid hown9
        clear hown9 hgrow9
        go_wp2_with fail
        go_roundw
        case rel => exact ⟨k + 1, xa', xc', xs ++ ys, by omega, by go_num, by rw [HSL.out], by rw [HSL.out]; exact HO9.out, HNN.out, HB9.out⟩
        case measure => simp [intOf]; omega
    · have HE2 := Lib.hid (show k = f.len by omega)
      have HF := Lib.hid (show ∃ g, xa = some ⟨g, 0, none⟩ ∧ w.heap.size ≤ g ∧ NAt wr (fun q => ok q ∨ w.heap.size ≤ q) (f.spread P) g 0 from by
        have hE2 := HE2.out
        have ho := HO.out
        have hn := HNV.out
        rw [hE2, f.tk_len] at ho hn
        rcases ho.2 with ⟨hv, h0⟩ | ⟨g, cap, cur, hv, hgb, _⟩
        · have := HSP.out; omega
        · cases hv
          refine ⟨g, rfl, hgb, NAt.of fun i hi => ?_⟩
          obtain ⟨v, h1, h2⟩ := hn i hi
          exact ⟨v, by rw [Nat.zero_add, World.ownsRow.cellAt ho i (by omega)]; exact h1, h2.map fun b o u q hc => ⟨.inl q, cell_step HB.out hc⟩⟩)
      have HEL := Lib.hid (show ((f.tk k).spread P).len = (f.spread P).len by rw [HE2.out, f.tk_len])
      go_wp2_with fail
      go_ret
      obtain ⟨g, rfl, h1, h2⟩ := HF.out
      exact ⟨⟨g, xc, by rw [← HEL.out]; rfl, h1, h2⟩, HB.out⟩

set_option maxRecDepth 100000 in
set_option maxHeartbeats 4000000 in
theorem tidyNode_makes (n : Int) (W0 : World) : Makes W0 37 #[] #[] n tidyF := by
  refine ⟨enters_of Try.func37 (by kernel_rfl) rfl, ?_⟩
  intro W ok h l f t v hB hs hg hv
  have ta1 := assert_tt
  have ta2 := assert_lt
  have hlen := f.len_le
  rcases hv with ⟨rfl, e⟩ | ⟨hne, b', o', c, e, hb', h4⟩
  · cases e
    show Calls Try.prog 37 #[.iface 62 (.agg #[.int .i64 h])] W _
    have HB := Lib.hid ((Below.refl W.heap.size W).alloc (Nat.le_refl _) (.cells #[.int .i64 0, .slice none 0 0] 68))
    clear hB hg
    go_enter Try.func37, Try.ntmps37
    go_wp2_with fail
    go_ret
    exact ⟨⟨_, _, rfl, .inl ⟨rfl, rfl⟩⟩, HB.out⟩
  · cases e
    have hkp : 0 < f.len := by
      cases f with
      | nil => exact absurd rfl hne
      | cons => exact Nat.succ_pos _
    show Calls Try.prog 37 #[.iface 68 (.agg #[.int .i64 l, .slice (some ⟨b', o', none⟩) f.len c])] W _
    have hb := (Below.refl W.heap.size W).alloc (Nat.le_refl _) (.cells #[.int .i64 l, .slice (some ⟨b', o', none⟩) f.len c] 68)
    have hx : Boxes (W.alloc (.cells #[.int .i64 l, .slice (some ⟨b', o', none⟩) f.len c] 68)) W.heap.size 68 #[.int .i64 l, .slice (some ⟨b', o', none⟩) f.len c] := World.alloc_heap_new _ _
    have HN := Lib.hid (h4.map (W' := W.alloc (.cells #[.int .i64 l, .slice (some ⟨b', o', none⟩) f.len c] 68)) (ok' := ok) (fun b o v q hc => ⟨q, cell_step hb hc⟩) hb')
    have HB := Lib.hid hb
    have HX := Lib.hid hx
    have HNE := Lib.hid hne
    clear hB hg h4 hb hne hx
    by_cases h1 : f.len = 1
    · obtain ⟨u, q1, q2⟩ := HN.out.get (i := 0) (by omega)
      obtain ⟨ut, ux, rfl⟩ := q2.form
      have HU := Lib.hid q2
      have HF := Lib.hid (show tidyF h l f = (f.hAt 0, f.lAt 0, f.kAt 0) by unfold tidyF; rw [if_neg (by omega), if_pos h1])
      rw [Nat.add_zero] at q1
      have s1 : (f.len == 1) = true := by simp [h1]
      have s2 : ((f.len : Int) == 1) = true := by simp [h1]
      have s3 : (0 : Int) < (f.len : Int) := by omega
      clear q2 h1
      go_enter Try.func37, Try.ntmps37
      go_wp2_with fail
      go_ret
      exact ⟨⟨ut, ux, rfl, by rw [HF.out]; exact HU.out.mono fun b q => .inl q⟩, HB.out⟩
    have s1 : (f.len == 1) = false := by simp [h1]
    have s2 : ((f.len : Int) == 1) = false := by simp; omega
    by_cases hl1 : l = 1
    · have HF := Lib.hid (show tidyF h l f = (h, 1, f.spread fun x _ => x == 1) by unfold tidyF; rw [if_neg (by omega), if_neg h1, if_pos hl1])
      have t1 : (l == 1) = true := by simp [hl1]
      have T1 := Lib.hid t1
      have HSP := Lib.hid (Fo.spread_pos (fun x _ => x == 1) f hkp)
      clear h1 hl1
      go_enter Try.func37, Try.ntmps37
      go_wp2_with fail
      refine (needsOne_any l _ f.len c _).mono ?_
      generalize W.alloc (.cells #[.int .i64 l, .slice (some ⟨b', o', none⟩) f.len c] 68) = w1 at *
      rintro e w2 ⟨rfl, hb2⟩
      rw [T1.out]
      have hx2 := HX.out.step hb2
      have HB2 := Lib.hid (HB.out.trans (hb2.mono HB.out.size))
      have HN2 := Lib.hid (HN.out.map (W' := w2) (ok' := ok) (fun b o v q hc => ⟨q, cell_step hb2 hc⟩) hb')
      have x0 := hx2.n0
      have x1 := hx2.n1
      have xl := hx2.lt
      clear hb2 hx2
      go_wp2_with fail
      refine (spread_any f hs ok b' o' c _ _ _ hkp hb' HN2.out one_picks).mono ?_
      clear x0 x1 xl
      rintro e w3 ⟨⟨g, xc, rfl, hg, hn3⟩, hb3⟩
      have HN3 := Lib.hid hn3
      have HB3 := Lib.hid (HB2.out.trans (hb3.mono HB2.out.size))
      have hszz := HB2.out.size
      clear hn3 hb3
      go_wp2_with fail
      go_ret
      refine ⟨⟨_, _, rfl, ?_⟩, HB3.out⟩
      rw [HF.out]
      refine .inr ⟨fun e => by have := HSP.out; rw [show (f.spread fun x _ => x == 1) = .nil from e] at this; exact absurd this (Nat.not_lt_zero _), g, 0, xc, rfl, .inr (by omega), HN3.out.map (fun b o v q hc => ⟨?_, hc⟩) (.inr hg)⟩
      rcases q with q | q
      · exact .inl q
      · exact .inr (Nat.le_trans hszz q)
    have t1 : (l == 1) = false := by simp [hl1]
    have T1 := Lib.hid t1
    by_cases hla : l = (f.len : Int)
    · have HF := Lib.hid (show tidyF h l f = (h, ((f.spread fun x y => x == (y : Int)).len : Int), f.spread fun x y => x == (y : Int)) by unfold tidyF; rw [if_neg (by omega), if_neg h1, if_neg hl1, if_pos hla])
      have T2 := Lib.hid (show (l == (f.len : Int)) = true by simp [hla])
      have HSP := Lib.hid (Fo.spread_pos (fun x y => x == (y : Int)) f hkp)
      clear h1 hl1 hla
      go_enter Try.func37, Try.ntmps37
      go_wp2_with fail
      refine (needsOne_any l _ f.len c _).mono ?_
      generalize W.alloc (.cells #[.int .i64 l, .slice (some ⟨b', o', none⟩) f.len c] 68) = w1 at *
      rintro e w2 ⟨rfl, hb2⟩
      rw [T1.out]
      have hx2 := HX.out.step hb2
      replace HX := Lib.hid hx2
      have HB2 := Lib.hid (HB.out.trans (hb2.mono HB.out.size))
      have HN2 := Lib.hid (HN.out.map (W' := w2) (ok' := ok) (fun b o v q hc => ⟨q, cell_step hb2 hc⟩) hb')
      have x0 := hx2.n0
      have x1 := hx2.n1
      have xl := hx2.lt
      clear hb2 hx2
      go_wp2_with fail
      refine (needsAll_any l _ f.len c _ (by omega)).mono ?_
      clear x0 x1 xl
      rintro e w2' ⟨rfl, hb2⟩
      rw [T2.out]
      have hx2 := HX.out.step hb2
      replace HB2 := Lib.hid (HB2.out.trans (hb2.mono HB2.out.size))
      replace HN2 := Lib.hid (HN2.out.map (W' := w2') (ok' := ok) (fun b o v q hc => ⟨q, cell_step hb2 hc⟩) hb')
      have x0 := hx2.n0
      have x1 := hx2.n1
      have xl := hx2.lt
      clear hb2 hx2
      go_wp2_with fail
      refine (spread_any f hs ok b' o' c _ _ _ hkp hb' HN2.out all_picks).mono ?_
      clear x0 x1 xl
      rintro e w3 ⟨⟨g, xc, rfl, hg, hn3⟩, hb3⟩
      have HN3 := Lib.hid hn3
      have HB3 := Lib.hid (HB2.out.trans (hb3.mono HB2.out.size))
      have hszz := HB2.out.size
      clear hn3 hb3
      go_wp2_with fail
      go_ret
      refine ⟨⟨_, _, rfl, ?_⟩, HB3.out⟩
      rw [HF.out]
      refine .inr ⟨fun e => by have := HSP.out; rw [show (f.spread fun x y => x == (y : Int)) = .nil from e] at this; exact absurd this (Nat.not_lt_zero _), g, 0, xc, rfl, .inr (by omega), HN3.out.map (fun b o v q hc => ⟨?_, hc⟩) (.inr hg)⟩
      rcases q with q | q
      · exact .inl q
      · exact .inr (Nat.le_trans hszz q)
    have HF := Lib.hid (show tidyF h l f = (h, l, f) by unfold tidyF; rw [if_neg (by omega), if_neg h1, if_neg hl1, if_neg hla])
    have T2 := Lib.hid (show (l == (f.len : Int)) = false by simp [hla])
    clear h1 hl1 hla
    go_enter Try.func37, Try.ntmps37
    go_wp2_with fail
    refine (needsOne_any l _ f.len c _).mono ?_
    generalize W.alloc (.cells #[.int .i64 l, .slice (some ⟨b', o', none⟩) f.len c] 68) = w1 at *
    rintro e w2 ⟨rfl, hb2⟩
    rw [T1.out]
    have hx2 := HX.out.step hb2
    replace HX := Lib.hid hx2
    have HB2 := Lib.hid (HB.out.trans (hb2.mono HB.out.size))
    have HN2 := Lib.hid (HN.out.map (W' := w2) (ok' := ok) (fun b o v q hc => ⟨q, cell_step hb2 hc⟩) hb')
    have x0 := hx2.n0
    have x1 := hx2.n1
    have xl := hx2.lt
    clear hb2 hx2
    go_wp2_with fail
    refine (needsAll_any l _ f.len c _ (by omega)).mono ?_
    clear x0 x1 xl
    rintro e w2' ⟨rfl, hb2⟩
    rw [T2.out]
    have hx2 := HX.out.step hb2
    replace HB2 := Lib.hid (HB2.out.trans (hb2.mono HB2.out.size))
    replace HN2 := Lib.hid (HN2.out.map (W' := w2') (ok' := fun b => ok b ∨ W.heap.size ≤ b) (fun b o v q hc => ⟨.inl q, cell_step hb2 hc⟩) hb')
    have x0 := hx2.n0
    have x1 := hx2.n1
    have xl := hx2.lt
    clear hb2 hx2
    go_wp2_with fail
    go_ret
    exact ⟨⟨_, _, rfl, by rw [HF.out]; exact .inr ⟨HNE.out, b', o', c, rfl, .inl hb', HN2.out⟩⟩, HB2.out⟩
end Go.Proofs.Ytjhggglaglpgfaa
