/- l03Filled: a matrix is drawn. -/
import Derived.Test.YtpifgapogbbcnaaDr1
namespace Go.Proofs.Ytpifgapogbbcnaa
open Go.RowKit Go.Deep Go.Joins
set_option linter.unusedVariables false

theorem grown_pre {a b c : World} {row : Option Nat} (h : Below a.heap.size a b) (k : b.grownBy c row) : a.grownBy c row :=
  ⟨k.os.trans h.os, k.tape.trans h.tape, k.output.trans h.output, Nat.le_trans h.size k.size, fun x hx hne => (k.block x (Nat.lt_of_lt_of_le hx h.size) hne).trans (h.block x hx)⟩
theorem rows_snocOff {W W' : World} {base q : Nat} {us : List Value} {zss : List (List Int)} {u : Value} {zs : List Int} (h : RowsOwn W base us zss) (hg : W.grownBy W' (some q)) (hq : q < base) (hu : OwnI W' W.heap.size u zs) (hB : base ≤ W.heap.size) :
    RowsOwn W' base (us ++ [u]) (zss ++ [zs]) := by
  refine ⟨by simp [h.len], fun i u1 zs1 h1 h2 => ?_, ?_⟩
  · by_cases hi : i < us.length
    · rw [List.getElem?_append_left hi] at h1
      rw [List.getElem?_append_left (by rw [← h.len]; exact hi)] at h2
      exact World.ownsRow.kept (h.own i u1 zs1 h1 h2) hg (.inr (row_ge (h.own i u1 zs1 h1 h2) hq))
    · rw [List.getElem?_append_right (by omega)] at h1
      rw [List.getElem?_append_right (by rw [← h.len]; omega), ← h.len] at h2
      have h0 : i - us.length = 0 := by
        have := (List.getElem?_eq_some_iff.1 h1).1
        simp at this; omega
      rw [h0] at h1 h2
      simp at h1 h2
      subst h1; subst h2
      exact hu.mono hB
  · refine List.pairwise_append.2 ⟨h.sep, by simp, fun u1 hu1 u2 hu2 b b' e1 e2 => ?_⟩
    simp at hu2; subst hu2
    obtain ⟨i, hi, rfl⟩ := List.mem_iff_getElem.1 hu1
    have h3 := (h.own i us[i] (zss[i]'(by rw [← h.len]; exact hi)) (by simp [hi]) (by simp)).lt e1
    have h4 := hu.lt e2
    omega
theorem OwnM.offq {W W' : World} {base m vc n q : Nat} {va : Option Addr} {us : List Value} {f : Nat → Nat → Int} (h : OwnM W base va m vc us n f) (hg : W.grownBy W' (some q)) (hq : q < base) : OwnM W' base va m vc us n f :=
  ⟨h.row.kept hg (.inr (row_ge h.row hq)), h.len, fun i u hu => World.ownsRow.kept (h.own i u hu) hg (.inr (row_ge (h.own i u hu) hq)), h.dis⟩
/-- An element of a row is stored. -/
theorem OwnI.put1 {W : World} {base g n cap j : Nat} {r : Nat → Int} (h : OwnI W base (.slice (some ⟨g, 0, none⟩) n cap) (rowOf n r)) (v : Int) :
    OwnI (W.setCell ⟨g, j, none⟩ (.int .i64 v)) base (.slice (some ⟨g, 0, none⟩) n cap) (rowOf n (fun t => if t = j then v else r t)) ∧ W.grownBy (W.setCell ⟨g, j, none⟩ (.int .i64 v)) (some g) := by
  have h' : W.ownsRow base 2 1 (.slice (some ⟨g, 0, none⟩) n cap) (rowOf n r).length (vals (rowOf n r)) := h
  rw [rowOf_len] at h'
  obtain ⟨h1, h2⟩ := World.ownsRow.stored h' j (.int .i64 v)
  have e : (rowOf n r).set j v = rowOf n (fun t => if t = j then v else r t) := by
    refine ext_nth (by simp [rowOf]) fun i hi => ?_
    have hi' : i < n := by simpa [rowOf] using hi
    rw [rowOf_at _ _ hi', nth_lt hi]
    by_cases e : i = j
    · subst e; simp
    · rw [List.getElem_set_ne (fun q => e q.symm), if_neg e]; simp [rowOf]
  rw [vals_set, e] at h1
  refine ⟨?_, h2⟩
  unfold OwnI
  rw [rowOf_len]
  exact h1
/-- What a matrix in the making is. -/
structure Fil (W0 W : World) (q : Nat) (a : Option Addr) (zs : List Int) (c kk oo : Nat) (p : Int) (m n : Nat) (va : Option Addr) (vc : Nat) (us : List Value) (f : Nat → Nat → Int) : Prop where
  src : Src W q a zs c kk
  box : Boxes W oo 26 #[.int .i64 p, .int .i64 (n : Int), .slice va m vc]
  res : Boxes W W0.heap.size 26 #[.int .i64 0, .int .i64 0, .slice none 0 0]
  rows : OwnM W (oo + 1) va m vc us n f
  el : ∀ i, i < m → ∀ j, j < n → Elem p (f i j)
  gr : W0.grownBy W (some q)
section
variable {W0 W W' : World} {q : Nat} {a : Option Addr} {zs : List Int} {c kk kk' oo : Nat} {p : Int} {m n : Nat} {va : Option Addr} {vc : Nat} {us : List Value} {f : Nat → Nat → Int}
theorem Fil.off (h : Fil W0 W q a zs c kk oo p m n va vc us f) (hs : Src W' q a zs c kk') (hg : W.grownBy W' (some q)) (hq : q < W0.heap.size) (ho : W0.heap.size + 1 = oo) : Fil W0 W' q a zs c kk' oo p m n va vc us f :=
  ⟨hs, h.box.grown hg (by simp; omega), h.res.grown hg (by simp; omega), h.rows.offq hg (by omega), h.el, grown_trans h.gr hg⟩
theorem Fil.quiet (h : Fil W0 W q a zs c kk oo p m n va vc us f) (hb : Below W.heap.size W W') (hq : q < W0.heap.size) (ho : W0.heap.size + 1 = oo) : Fil W0 W' q a zs c kk oo p m n va vc us f :=
  h.off (h.src.quiet hb) (grown_below hb) hq ho
theorem Fil.put (h : Fil W0 W q a zs c kk oo p m n va vc us f) (hl : Low W0.heap.size q a zs) (ho : W0.heap.size + 1 = oo) {i j g cap : Nat} (hu : us[i]? = some (.slice (some ⟨g, 0, none⟩) n cap)) {v : Int} (hv : Elem p v) :
    Fil W0 (W.setCell ⟨g, j, none⟩ (.int .i64 v)) q a zs c kk oo p m n va vc us (fun c => if c = i then (fun t => if t = j then v else f i t) else f c) := by
  have hoi := h.rows.own i _ hu
  obtain ⟨h1, h2⟩ := OwnI.put1 (j := j) hoi v
  have hge := (row_lt hoi (b := g) rfl).1
  refine ⟨h.src.kept hl h2 (fun r hr => by cases hr; omega), h.box.grown h2 (by simp; omega), h.res.grown h2 (by simp; omega), h.rows.changed hu h1 h2, fun i' hi' j' hj' => ?_, grown_mixd h.gr h2 (fun r hr => by cases hr; have := h.res.lt; omega)⟩
  by_cases e : i' = i
  · simp only [if_pos e]
    by_cases e2 : j' = j
    · rw [if_pos e2]; exact hv
    · rw [if_neg e2]; exact h.el i (by rw [← e]; exact hi') j' hj'
  · simp only [if_neg e]; exact h.el i' hi' j' hj'
end

set_option maxRecDepth 100000 in
set_option maxHeartbeats 4000000 in
theorem l03Filled_any (q : Nat) (a : Option Addr) (zs : List Int) (c k0 : Nat) (p : Int) (m n : Nat) (w : World) (h : Src w q a zs c k0) (hk0 : k0 ≤ 1000) (hp : 2 ≤ p) (hp1 : p ≤ 31) (hm : m ≤ 6) (hn : n ≤ 6) :
    Calls Try.prog 27 #[.pointer (some ⟨q, 0, none⟩), .int .i64 p, .int .i64 (m : Int), .int .i64 (n : Int)] w fun e w' => (∃ va vc us f, e = .returned (.agg #[.int .i64 p, .int .i64 (n : Int), .slice va m vc]) ∧ OwnM w' w.heap.size va m vc us n f ∧ ∀ i, i < m → ∀ j, j < n → Elem p (f i j)) ∧ w.grownBy w' (some q) := by
  have HS := Lib.hid h
  have HLO := Lib.hid h.low
  have hq := h.low.1
  clear h
  obtain ⟨i0, hi, hz0, hz1, hz2⟩ := info_parts Try.infoInt64
  obtain ⟨i1, ji, jz0, jz1, jz2⟩ := info_parts Try.infoInt64S
  go_enter Try.func27, Try.ntmps27
  go_wp2_with fail
  have hb2 := ((Below.refl w.heap.size w).alloc (Nat.le_refl _) (.cells #[.int .i64 0, .int .i64 0, .slice none 0 0] 26)).alloc (by simp) (.cells #[.int .i64 p, .int .i64 (n : Int), .slice none 0 0] 26)
  have hy : Boxes ((w.alloc (.cells #[.int .i64 0, .int .i64 0, .slice none 0 0] 26)).alloc (.cells #[.int .i64 p, .int .i64 (n : Int), .slice none 0 0] 26)) w.heap.size 26 #[.int .i64 0, .int .i64 0, .slice none 0 0] := Boxes.step (W := w.alloc (.cells #[.int .i64 0, .int .i64 0, .slice none 0 0] 26)) (World.alloc_heap_new _ _) ((Below.refl _ _).alloc (Nat.le_refl _) _)
  have hbo : Boxes ((w.alloc (.cells #[.int .i64 0, .int .i64 0, .slice none 0 0] 26)).alloc (.cells #[.int .i64 p, .int .i64 (n : Int), .slice none 0 0] 26)) (w.heap.size + 1) 26 #[.int .i64 p, .int .i64 (n : Int), .slice none 0 0] := by
    have : Boxes ((w.alloc (.cells #[.int .i64 0, .int .i64 0, .slice none 0 0] 26)).alloc (.cells #[.int .i64 p, .int .i64 (n : Int), .slice none 0 0] 26)) (w.alloc (.cells #[.int .i64 0, .int .i64 0, .slice none 0 0] 26)).heap.size 26 #[.int .i64 p, .int .i64 (n : Int), .slice none 0 0] := World.alloc_heap_new _ _
    simpa using this
  generalize ((w.alloc (.cells #[.int .i64 0, .int .i64 0, .slice none 0 0] 26)).alloc (.cells #[.int .i64 p, .int .i64 (n : Int), .slice none 0 0] 26)) = w2 at *
  have HF0 := Lib.hid (HS.out.quiet hb2)
  have HG0 := Lib.hid (grown_below (g := q) hb2)
  have HY := Lib.hid hy
  have HO := Lib.hid hbo
  generalize hoo : w.heap.size + 1 = oo at *
  have HOO := Lib.hid hoo
  clear hb2 hy hbo HS
  have p0 : p ≠ 0 := by omega
  go_wp2_with fail
  go_loopw [10, 11, 12] (fun i q5 q6 wr => ∃ (k : Nat) (va : Option Addr) (vc : Nat) (us : List Value) (z : List (List Int)) (kb : Nat), k ≤ m ∧ i = .int .i64 k ∧ z.length = k ∧ (∀ r ∈ z, r.length = n ∧ ∀ x ∈ r, Elem p x) ∧ Boxes wr oo 26 #[.int .i64 p, .int .i64 (n : Int), .slice va k vc] ∧ Boxes wr w.heap.size 26 #[.int .i64 0, .int .i64 0, .slice none 0 0] ∧ Own wr (oo + 1) (.slice va k vc) us z ∧ Src wr q a zs c kb ∧ kb ≤ k0 + 8 * k ∧ w.grownBy wr (some q))
    (fun i _ _ _ => m - (intOf i).toNat)
  case atStart => exact ⟨0, none, 0, [], [], k0, Nat.zero_le _, rfl, rfl, by simp, HO.out, HY.out, Own.nil3 _ _, HF0.out, by omega, HG0.out⟩
  case round =>
    obtain ⟨k, va, vc, us, z, kb, hk, rfl, hzl, hze, hx, hres, hown, hsr, hkb, hgo⟩ := hrel
    have HZL := Lib.hid hzl
    have HZE := Lib.hid hze
    have HXQ := Lib.hid hx
    have HRS := Lib.hid hres
    have HOQ := Lib.hid hown
    have HSO := Lib.hid hsr
    have HGO := Lib.hid hgo
    have hooq1 : oo + 1 ≤ wr.heap.size := hx.lt
    clear hzl hze hx hres hown hsr hgo HO HY HF0 HG0
    obtain ⟨wo, rfl⟩ : ∃ wo : World, wo = wr := ⟨_, rfl⟩
    by_cases hlt : k < m
    · have hi0 : (k : Int) < (m : Int) := by omega
      go_wp2_with fail
      have hown0 : OwnI (wo.alloc (.cells #[] 2)) wo.heap.size (.slice (some ⟨wo.heap.size, 0, none⟩) 0 0) ([] : List Int) := by
        exact World.ownsRow_made wo (base := wo.heap.size) (e := 2) (size := 1) #[] 0 (Nat.le_refl _) (by unfold maxLen; omega) rfl
      have HOW := Lib.hid hown0
      have hba := (Below.refl wo.heap.size wo).alloc (Nat.le_refl _) (.cells #[] 2)
      have HSA := Lib.hid (HSO.out.quiet hba)
      have HGA := Lib.hid (grown_below (g := q) hba)
      clear hown0 hba
      generalize wo.alloc (.cells #[] 2) = w4 at *
      generalize (Value.slice (some ⟨wo.heap.size, 0, none⟩) 0 0) = v0 at *
      go_loopw [11, 12] (fun q5 i wi => ∃ (j : Nat) (r : List Int) (kk : Nat), j ≤ n ∧ i = .int .i64 j ∧ r.length = j ∧ (∀ x ∈ r, Elem p x) ∧ OwnI wi wo.heap.size q5 r ∧ wo.grownBy wi (some q) ∧ Src wi q a zs c kk ∧ kk ≤ kb + j)
        (fun _ i _ => n - (intOf i).toNat)
      case atStart => exact ⟨0, [], kb, Nat.zero_le _, rfl, rfl, by simp, HOW.out, HGA.out, HSA.out, by omega⟩
      case round =>
        obtain ⟨j, r, kk, hj, rfl, hrl, hre, ho, hgi, hsi, hkk⟩ := hrel
        have HRL := Lib.hid hrl
        have HRE := Lib.hid hre
        have HOI := Lib.hid ho
        have HGI := Lib.hid hgi
        have HSI := Lib.hid hsi
        have hsz := hgi.size
        clear hrl hre ho hgi hsi HOW HGA HSA
        by_cases hltj : j < n
        · have hj0 : (j : Int) < (n : Int) := by omega
          go_wp2_with fail
          refine (pick_any q a zs c kk p wr HSI.out (by omega) (by omega) (by omega)).mono ?_
          rintro e w5 ⟨⟨v, rfl, vv0, vv1⟩, ⟨k5, hk5, hs5⟩, hg5⟩
          have HOI5 := Lib.hid (HOI.out.far hg5 (show q < wo.heap.size by omega))
          have HS5 := Lib.hid hs5
          have HG5 := Lib.hid (grown_trans HGI.out hg5)
          have hsz5 := Nat.le_trans hsz hg5.size
          clear hs5 hg5
          go_wp2_with (at_builtin; refine wpList_append_own _ rfl _ _ 28 rfl wo.heap.size 2 i0 (.int .i64 0) 1 8 Try.underlying28 hi hz0 hz1 hz2 rfl (by decide) _ _ _ rfl (World.ownsRow.alloc HOI5.out _) ⟨w5.heap.size, 0, none⟩ 1 1 [.int .i64 v] rfl rfl (cell_one_new _ _ _) (by simp [Value.oneCell']) (by rw [HRL.out]; unfold maxLen; omega) (by rw [HRL.out]; omega) (by simp; omega) ?_; intro v' w6 hown6 hgrow6 _)
          have H6 := Lib.hid (show OwnI w6 wo.heap.size v' (r ++ [v]) by
            unfold OwnI; rw [vals_snoc, List.length_append]; exact hown6)
          have hgp := grown_pre ((Below.refl w5.heap.size w5).alloc (Nat.le_refl _) (.cells #[.int .i64 v] 2)) hgrow6
          have HS6 := Lib.hid (HS5.out.kept (HLO.out.le (show w.heap.size ≤ wo.heap.size by omega)) hgp (fun b hb => (row_lt HOI5.out hb).1))
          have HG6 := Lib.hid (grown_mixd HG5.out hgp (fun b hb => (row_lt HOI5.out hb).1))
          clear hown6 hgrow6 hgp
          go_wp2_with fail
          go_roundw
          case rel => exact ⟨j + 1, r ++ [v], k5, by omega, by go_num, by simp [HRL.out], fun x hx => by rcases List.mem_append.1 hx with h | h; exact HRE.out x h; simp at h; subst h; exact ⟨vv0, vv1⟩, H6.out, HG6.out, HS6.out, by omega⟩
          case measure => simp [intOf]; omega
        · have hj0 : ¬ (j : Int) < (n : Int) := by omega
          have hE : j = n := by omega
          subst hE
          have hx1 := HXQ.out.grown HGI.out (by simp; omega)
          have e2 := hx1.m2
          have f2 := hx1.frozen 2
          have hl1 := hx1.lt
          have HX1 := Lib.hid hx1
          have HRS1 := Lib.hid (HRS.out.grown HGI.out (by simp; omega))
          obtain ⟨ua, uc, hu5⟩ := rowForm HOI.out
          rw [HRL.out] at hu5
          subst hu5
          have HRN := Lib.hid (rows_snocOff HOQ.out.rows HGI.out (by omega) HOI.out hooq1)
          have HOG := Lib.hid (World.ownsRow.kept HOQ.out.row HGI.out (.inr (row_ge HOQ.out.row (by omega))))
          clear hx1 HOI
          go_wp2_with (at_builtin; refine wpList_append_own _ rfl _ _ 24 rfl (oo + 1) 28 i1 (.slice none 0 0) 1 24 Try.underlying24 ji jz0 jz1 jz2 rfl (by decide) _ _ us rfl (World.ownsRow.alloc HOG.out _) ⟨wr.heap.size, 0, none⟩ 1 1 [(.slice ua j uc)] rfl rfl (cell_one_new _ _ _) (by simp [Value.oneCell']) (by rw [HZL.out]; unfold maxLen; omega) (by rw [HZL.out]; omega) (by simp; omega) ?_; intro v' w7 hown7 hgrow7 _; rw [HZL.out] at hown7; obtain ⟨va', vc', rfl⟩ := rowForm hown7; have hxx := (HX1.out.step ((Below.refl _ _).alloc (Nat.le_refl _) (.cells #[(.slice ua j uc)] 28))).grown hgrow7 (row_ge HOG.out (Nat.lt_succ_self _)); have g2 := hxx.m2; have gf := hxx.frozen 2)
          have hz7 : oo < w7.heap.size := hxx.lt
          have HX7 := Lib.hid hxx
          have HO7 := Lib.hid hown7
          have HG7 := Lib.hid hgrow7
          have hgp := grown_pre ((Below.refl wr.heap.size wr).alloc (Nat.le_refl _) (.cells #[(.slice ua j uc)] 28)) hgrow7
          have HS7 := Lib.hid ((HSI.out.kept HLO.out hgp (fun b hb => by have := row_lt HOG.out hb; omega)).kept HLO.out (grown_cell w7 oo 2 (.slice va' (k + 1) vc')) (fun b hb => by cases hb; omega))
          have HGG := Lib.hid (grown_mixd (grown_mixd (grown_trans HGO.out HGI.out) hgp (fun b hb => by have := row_lt HOG.out hb; omega)) (grown_cell w7 oo 2 (.slice va' (k + 1) vc')) (fun b hb => by cases hb; omega))
          have HRS7 := Lib.hid ((HRS1.out.grown hgp (row_ge HOG.out (by omega))).other3 (b := oo) (o := 2) (v := .slice va' (k + 1) vc') (by omega))
          clear hxx hown7 hgrow7 hgp
          go_wp2_with fail
          go_roundw
          case rel =>
            refine ⟨k + 1, va', vc', us ++ [(.slice ua j uc)], z ++ [r], kk, by omega, by go_num, by simp [HZL.out], ?_, HX7.out.set3d _, HRS7.out, ⟨?_, ?_⟩, HS7.out, by omega, HGG.out⟩
            · intro x hx
              rcases List.mem_append.1 hx with h | h
              · exact HZE.out x h
              · simp at h; subst h; exact ⟨HRL.out, HRE.out⟩
            · have := row_set (u := .slice va' (k + 1) vc') (o := 2) HO7.out (Nat.lt_succ_self oo)
              rw [List.length_append, HZL.out]
              exact this
            · refine (HRN.out.map (W' := w7) fun u zs ho => row_other (World.ownsRow.alloc ho _) (World.ownsRow.alloc HOG.out _) HG7.out (by decide)).map fun u zs ho => row_set ho (Nat.lt_succ_self oo) _
          case measure => simp [intOf]; omega
    · have hi0 : ¬ (k : Int) < (m : Int) := by omega
      have hE : k = m := by omega
      subst hE
      have hm9 : OwnM wo (oo + 1) va k vc us n (fn z) := by
        have h1 := HOQ.out
        have h2 := HZL.out
        subst h2
        exact OwnM.of h1 (fun r hr => (HZE.out _ (by rw [nthL_lt hr]; exact List.getElem_mem _)).1)
      have hel9 : ∀ i, i < k → ∀ j, j < n → Elem p (fn z i j) := fun i hi j hj => by
        have h2 := HZL.out
        have h3 := HZE.out (nthL z i) (by rw [nthL_lt (by omega)]; exact List.getElem_mem _)
        unfold fn
        exact h3.2 _ (by rw [nth_lt (by omega)]; exact List.getElem_mem _)
      have HF1 := Lib.hid (show Fil w wo q a zs c kb oo p k n va vc us (fn z) from ⟨HSO.out, HXQ.out, HRS.out, hm9, hel9, HGO.out⟩)
      clear hm9 hel9 HXQ HRS HOQ HSO HGO HZE HZL
      by_cases hm2 : 1 < k
      · have hm3 : (1 : Int) < (k : Int) := by omega
        go_wp2_with fail
        refine (one_any q a zs c kb 3 wo HF1.out.src (by omega) (by omega) (by omega)).mono ?_
        rintro e w5 ⟨⟨b, rfl⟩, ⟨k5, hk5, hs5⟩, hg5⟩
        have HF2 := Lib.hid (HF1.out.off hs5 hg5 hq HOO.out)
        clear hs5 hg5 HF1
        cases b
        · have c0 := HF2.out.box.m0
          have c1 := HF2.out.box.m1
          have c2 := HF2.out.box.m2
          have r0 := HF2.out.res.m0
          have r1 := HF2.out.res.m1
          have r2 := HF2.out.res.m2
          have s0 := HF2.out.res.frozen 0
          have s1 := HF2.out.res.frozen 1
          have s2 := HF2.out.res.frozen 2
          have wl := HF2.out.box.lt
          go_wp2_with fail
          refine bodyPost_ret (v := .agg #[.int .i64 p, .int .i64 (n : Int), .slice va k vc]) (by simp [results, Try.results27, go_sem, r0, r1, r2]) rfl ?_
          have hk : ∀ t, t ≠ 26 → KeepT t _ _ := fun t ht => KeepT.set3 HF2.out.res ht (.int .i64 p) (.int .i64 (n : Int)) (.slice va k vc)
          refine ⟨?_, grown_mixd HF2.out.gr (grown_trans (grown_trans (grown_cell _ w.heap.size 0 _) (grown_cell _ w.heap.size 1 _)) (grown_cell _ w.heap.size 2 _)) (fun r hr => by cases hr; exact Nat.le_refl _)⟩
          first
            | exact ⟨va, vc, us, _, rfl, (HF2.out.rows.keepT (hk _ (by decide)) (hk _ (by decide))).mono (by omega), HF2.out.el⟩
            | exact ⟨va, vc, rfl, us, _, (HF2.out.rows.keepT (hk _ (by decide)) (hk _ (by decide))).mono (by omega), HF2.out.el⟩
        · go_wp2_with fail
          refine (pick_any q a zs c k5 k w5 HF2.out.src (by omega) (by omega) (by omega)).mono ?_
          rintro e w6 ⟨⟨v1, rfl, v10, v11⟩, ⟨k6, hk6, hs6⟩, hg6⟩
          have HF3 := Lib.hid (HF2.out.off hs6 hg6 hq HOO.out)
          clear hs6 hg6 HF2
          go_wp2_with fail
          refine (pick_any q a zs c k6 k w6 HF3.out.src (by omega) (by omega) (by omega)).mono ?_
          rintro e w7 ⟨⟨v2, rfl, v20, v21⟩, ⟨k7, hk7, hs7⟩, hg7⟩
          have HF4 := Lib.hid (HF3.out.off hs7 hg7 hq HOO.out)
          clear hs7 hg7 HF3
          obtain ⟨r1, rfl⟩ : ∃ r : Nat, v1 = r := ⟨v1.toNat, by omega⟩
          obtain ⟨r2, rfl⟩ : ∃ r : Nat, v2 = r := ⟨v2.toNat, by omega⟩
          have hr1 : r1 < k := by omega
          have hr2 : r2 < k := by omega
          go_wp2_with fail
          go_loopw [15] (fun i wr => ∃ (j : Nat) (f : Nat → Nat → Int), j ≤ n ∧ i = .int .i64 j ∧ Fil w wr q a zs c k7 oo p k n va vc us f)
            (fun i _ => n - (intOf i).toNat)
          case atStart => exact ⟨0, _, Nat.zero_le _, rfl, HF4.out⟩
          case round =>
            obtain ⟨j, f, hj, rfl, hf⟩ := hrel
            have HF5 := Lib.hid hf
            clear hf HF4
            by_cases hltj : j < n
            · have hj0 : (j : Int) < (n : Int) := by omega
              obtain ⟨b, g, cap, rfl, hu, hb0, hbl, hc1, hfz, hoi, hbx⟩ := HF5.out.rows.at hr1 (by omega)
              obtain ⟨b', g', cap', eb, hu', hb0', hbl', hc2, hfz', hoi', hbx'⟩ := HF5.out.rows.at hr2 (by omega)
              cases eb
              have c2 := HF5.out.box.m2
              have ol := HF5.out.box.lt
              have d2 := hoi'.at hltj
              have fz := hoi.fz j
              have gl := hoi.gl.2
              have gl' := hoi'.gl.2
              have d1 := hoi.at hltj
              obtain ⟨x0, x1⟩ := HF5.out.el r2 hr2 j hltj
              have HP := Lib.hid ((HF5.out.quiet (drew_step _) hq HOO.out).put (j := j) HLO.out HOO.out hu (mod_elem hp (f r2 j * 2)))
              generalize hfx : f r2 j = x at d2 x0 x1 HP
              have t0 : 0 ≤ x * 2 ∧ x * 2 ≤ 62 := by omega
              obtain ⟨t1, t2⟩ := t0
              clear hoi hoi' hbx hbx' hu hu' hb0 hb0' hfz hfz' hfx
              go_wp2_with fail
              go_region
              all_goals (
                go_wp2_with fail
                go_roundw
                case rel => exact ⟨j + 1, _, by omega, by go_num, HP.out⟩
                case measure => simp [intOf]; omega)
            · have hj0 : ¬ (j : Int) < (n : Int) := by omega
              have c0 := HF5.out.box.m0
              have c1 := HF5.out.box.m1
              have c2 := HF5.out.box.m2
              have r0 := HF5.out.res.m0
              have r1 := HF5.out.res.m1
              have r2 := HF5.out.res.m2
              have s0 := HF5.out.res.frozen 0
              have s1 := HF5.out.res.frozen 1
              have s2 := HF5.out.res.frozen 2
              have wl := HF5.out.box.lt
              go_wp2_with fail
              refine bodyPost_ret (v := .agg #[.int .i64 p, .int .i64 (n : Int), .slice va k vc]) (by simp [results, Try.results27, go_sem, r0, r1, r2]) rfl ?_
              have hk : ∀ t, t ≠ 26 → KeepT t _ _ := fun t ht => KeepT.set3 HF5.out.res ht (.int .i64 p) (.int .i64 (n : Int)) (.slice va k vc)
              refine ⟨?_, grown_mixd HF5.out.gr (grown_trans (grown_trans (grown_cell _ w.heap.size 0 _) (grown_cell _ w.heap.size 1 _)) (grown_cell _ w.heap.size 2 _)) (fun r hr => by cases hr; exact Nat.le_refl _)⟩
              first
                | exact ⟨va, vc, us, _, rfl, (HF5.out.rows.keepT (hk _ (by decide)) (hk _ (by decide))).mono (by omega), HF5.out.el⟩
                | exact ⟨va, vc, rfl, us, _, (HF5.out.rows.keepT (hk _ (by decide)) (hk _ (by decide))).mono (by omega), HF5.out.el⟩
      · have hm3 : ¬ (1 : Int) < (k : Int) := by omega
        have c0 := HF1.out.box.m0
        have c1 := HF1.out.box.m1
        have c2 := HF1.out.box.m2
        have r0 := HF1.out.res.m0
        have r1 := HF1.out.res.m1
        have r2 := HF1.out.res.m2
        have s0 := HF1.out.res.frozen 0
        have s1 := HF1.out.res.frozen 1
        have s2 := HF1.out.res.frozen 2
        have wl := HF1.out.box.lt
        go_wp2_with fail
        refine bodyPost_ret (v := .agg #[.int .i64 p, .int .i64 (n : Int), .slice va k vc]) (by simp [results, Try.results27, go_sem, r0, r1, r2]) rfl ?_
        have hk : ∀ t, t ≠ 26 → KeepT t _ _ := fun t ht => KeepT.set3 HF1.out.res ht (.int .i64 p) (.int .i64 (n : Int)) (.slice va k vc)
        refine ⟨?_, grown_mixd HF1.out.gr (grown_trans (grown_trans (grown_cell _ w.heap.size 0 _) (grown_cell _ w.heap.size 1 _)) (grown_cell _ w.heap.size 2 _)) (fun r hr => by cases hr; exact Nat.le_refl _)⟩
        first
          | exact ⟨va, vc, us, _, rfl, (HF1.out.rows.keepT (hk _ (by decide)) (hk _ (by decide))).mono (by omega), HF1.out.el⟩
          | exact ⟨va, vc, rfl, us, _, (HF1.out.rows.keepT (hk _ (by decide)) (hk _ (by decide))).mono (by omega), HF1.out.el⟩
end Go.Proofs.Ytpifgapogbbcnaa
