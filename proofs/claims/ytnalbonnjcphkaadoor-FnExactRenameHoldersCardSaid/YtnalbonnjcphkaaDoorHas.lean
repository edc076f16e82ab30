/- The model's l00Has, l00Put, l01Order. -/
import Derived.Test.YtnalbonnjcphkaaDoorRenI
namespace Go.Proofs.YtnalbonnjcphkaaDoor
open Go.RowKit Go.Deep Go.Shelf
set_option linter.unusedVariables false

def HasIn (zs : List Int) (n : Int) : Prop := ∃ i, i < zs.length ∧ nth zs i = n
set_option maxRecDepth 100000 in
theorem l00Has_any (a : Option Addr) (zs : List Int) (c : Nat) (n : Int) (w : World) (h : Ints w a zs) (hl : zs.length ≤ 9223372036854775807) :
    Calls Tryd.prog 72 #[.slice a zs.length c, .int .i64 n] w fun e w' => e = .returned (.bool (tell (HasIn zs n))) ∧ w = w' := by
  go_enter Tryd.func72, Tryd.ntmps72
  go_wp2_with fail
  go_loop [5] (fun i => ∃ k : Nat, i = .int .i64 k ∧ k ≤ zs.length ∧ ∀ j, j < k → nth zs j ≠ n) (fun i => zs.length - (intOf i).toNat)
  case atStart => exact ⟨0, rfl, Nat.zero_le _, fun j hj => absurd hj (Nat.not_lt_zero _)⟩
  case round =>
    obtain ⟨k, rfl, hk, hs⟩ := hrel
    have HS := Lib.hid hs
    clear hs
    by_cases hlt : k < zs.length
    · rcases h with h | ⟨b, o, rfl, hc⟩
      · rw [h] at hlt; exact absurd hlt (Nat.not_lt_zero _)
      have hcell := hc k hlt
      have hi0 : (k : Int) < (zs.length : Int) := by omega
      clear hc
      by_cases he : nth zs k = n
      · have hq : (nth zs k == n) = true := by simp [he]
        have HN := Lib.hid (tell_true (p := HasIn zs n) ⟨k, hlt, he⟩)
        clear he
        go_wp2_with fail
        go_ret
        exact ⟨ret_bool HN.out.symm, rfl⟩
      · have hq : (nth zs k == n) = false := by simp [he]
        have HE := Lib.hid he
        clear he
        go_wp2_with fail
        go_round
        case rel => exact ⟨k + 1, by go_num, by omega, fun j hj => by
          by_cases e : j = k
          · subst e; exact HE.out
          · exact HS.out j (by omega)⟩
        case measure => simp [intOf]; omega
    · have HN := Lib.hid (tell_false (p := HasIn zs n) (fun ⟨i, h1, h2⟩ => HS.out i (by omega) h2))
      go_wp2_with fail
      go_ret
      exact ⟨ret_bool HN.out.symm, rfl⟩

/-- A number in its place. -/
def ins (n : Int) : List Int → List Int
  | [] => [n]
  | y :: t => if n < y then n :: y :: t else if y = n then y :: t else y :: ins n t
theorem ins_ge (n y : Int) : ∀ l : List Int, (∃ x ∈ l, n ≤ x) → ins n (l ++ [y]) = ins n l ++ [y]
  | [], ⟨x, h, _⟩ => by cases h
  | a :: t, ⟨x, h1, h2⟩ => by
    rw [List.cons_append, ins, ins]
    split
    · rfl
    · rename_i q
      split
      · rfl
      · rename_i r
        rw [ins_ge n y t ⟨x, by
          rcases List.mem_cons.1 h1 with rfl | h3
          · omega
          · exact h3, h2⟩, List.cons_append]
theorem ins_lt (n : Int) (l' : List Int) : ∀ l : List Int, (∀ x ∈ l, x < n) → ins n (l ++ l') = l ++ ins n l'
  | [], _ => rfl
  | a :: t, h => by
    have h1 := h a (by simp)
    rw [List.cons_append, ins, if_neg (by omega), if_neg (by omega), ins_lt n l' t fun x hx => h x (by simp [hx]), List.cons_append]
theorem mem_ins {n x : Int} : ∀ {l : List Int}, x ∈ ins n l ↔ x ∈ l ∨ x = n
  | [] => by simp [ins]
  | a :: t => by
    rw [ins]
    split
    · simp only [List.mem_cons]
      constructor
      · rintro (h | h | h)
        · exact .inr h
        · exact .inl (.inl h)
        · exact .inl (.inr h)
      · rintro ((h | h) | h)
        · exact .inr (.inl h)
        · exact .inr (.inr h)
        · exact .inl h
    · split
      · rename_i h; subst h
        simp only [List.mem_cons]
        constructor
        · exact .inl
        · rintro (h | h)
          · exact h
          · exact .inl h
      · rw [List.mem_cons, mem_ins, List.mem_cons, or_assoc]
theorem ins_up {n : Int} : ∀ {l : List Int}, l.Pairwise (· < ·) → (ins n l).Pairwise (· < ·)
  | [], _ => by simp [ins]
  | a :: t, h => by
    obtain ⟨h1, h2⟩ := List.pairwise_cons.1 h
    rw [ins]
    split
    · rename_i q
      refine List.pairwise_cons.2 ⟨fun x hx => ?_, h⟩
      rcases List.mem_cons.1 hx with rfl | h3
      · exact q
      · have := h1 x h3; omega
    · split
      · exact h
      · refine List.pairwise_cons.2 ⟨fun x hx => ?_, ins_up h2⟩
        rcases mem_ins.1 hx with h3 | rfl
        · exact h1 x h3
        · omega
theorem ins_in {n : Int} : ∀ {l : List Int}, l.Pairwise (· < ·) → n ∈ l → (ins n l).length = l.length
  | [], _, h => by cases h
  | a :: t, h, hm => by
    obtain ⟨h1, h2⟩ := List.pairwise_cons.1 h
    rw [ins]
    split
    · rename_i q
      rcases List.mem_cons.1 hm with rfl | h3
      · omega
      · have := h1 n h3; omega
    · split
      · rfl
      · rename_i q r
        rw [List.length_cons, List.length_cons, ins_in h2]
        rcases List.mem_cons.1 hm with rfl | h3
        · exact absurd rfl r
        · exact h3
theorem ins_new {n : Int} : ∀ {l : List Int}, ¬ n ∈ l → (ins n l).length = l.length + 1
  | [], _ => rfl
  | a :: t, hm => by
    rw [ins]
    split
    · rfl
    · split
      · rename_i q r; subst r; exact absurd (by simp) hm
      · rw [List.length_cons, List.length_cons, ins_new fun h => hm (by simp [h])]
theorem ins_len (n : Int) (l : List Int) : (ins n l).length ≤ l.length + 1 := by
  induction l with
  | nil => simp [ins]
  | cons a t ih =>
    rw [ins]
    split
    · simp
    · split
      · simp
      · simp; omega

theorem take_next {ys : List Int} {k : Nat} (h : k < ys.length) : ys.take (k + 1) = ys.take k ++ [nth ys k] := by
  rw [nth_lt h, List.take_succ_eq_append_getElem h]

theorem Ints.cellK {w : World} {b o k : Nat} {zs : List Int} (h : Ints w (some ⟨b, o, none⟩) zs) (hk : k < zs.length) : w.cell? ⟨b, o + k, none⟩ = some (.int .i64 (nth zs k)) := by
  rcases h with h | ⟨b', o', e, hc⟩
  · rw [h] at hk; exact absurd hk (Nat.not_lt_zero _)
  · cases e; exact hc k hk

set_option maxRecDepth 100000 in
set_option maxHeartbeats 1000000 in
theorem l00Put_any (a : Option Addr) (ys : List Int) (c : Nat) (n : Int) (w : World) (h : Ints w a ys) (hl : ys.length ≤ 1048577) :
    Calls Tryd.prog 71 #[.slice a ys.length c, .int .i64 n] w (GivesInts w (ins n ys)) := by
  obtain ⟨i0, hi, hz0, hz1, hz2⟩ := info_parts Tryd.infoInt64
  go_enter Tryd.func71, Tryd.ntmps71
  go_wp2_with fail
  have hown : OwnI (w.alloc (.cells #[] 2)) w.heap.size (.slice (some ⟨w.heap.size, 0, none⟩) 0 0) [] := World.ownsRow_made w #[] 0 (Nat.le_refl _) (by unfold maxLen; omega) rfl
  have hb1 := (Below.refl w.heap.size w).alloc (Nat.le_refl _) (.cells #[] 2)
  generalize (Value.slice (some ⟨w.heap.size, 0, none⟩) 0 0) = v0 at *
  go_loopw [5, 6, 7] (fun v d i wr => ∃ (k : Nat) (r : List Int), k ≤ ys.length ∧ i = .int .i64 k ∧ OwnI wr w.heap.size v r ∧ r.length ≤ k + 1 ∧ Below w.heap.size w wr ∧ ((d = .bool false ∧ r = ys.take k ∧ ∀ x ∈ ys.take k, x < n) ∨ (d = .bool true ∧ r = ins n (ys.take k) ∧ ∃ x ∈ ys.take k, n ≤ x)))
    (fun _ _ i _ => ys.length - (intOf i).toNat)
  case atStart => exact ⟨0, [], by omega, rfl, hown, by simp, hb1, .inl ⟨rfl, by simp, by simp⟩⟩
  case round =>
    obtain ⟨k, r, hk, rfl, ho, hlr, hb, hst⟩ := hrel
    have HO := Lib.hid ho
    have HB := Lib.hid hb
    have HA := Lib.hid (h.step hb)
    have hszr := hb.size
    have HA0 := Lib.hid h
    clear ho hb hown hb1 h
    by_cases hlt : k < ys.length
    · rcases HA.out with h | ⟨b, o, rfl, hc⟩
      · rw [h] at hlt; exact absurd hlt (Nat.not_lt_zero _)
      have hcell := hc k hlt
      have hi0 : (k : Int) < (ys.length : Int) := by omega
      have HT := Lib.hid (take_next hlt)
      clear hc
      rcases hst with ⟨rfl, hr, hall⟩ | ⟨rfl, hr, hex⟩
      · have HRR := Lib.hid hr
        have hrk : r.length ≤ k := by rw [hr, List.length_take]; omega
        have HALL := Lib.hid hall
        clear hr hall
        by_cases q1 : n ≤ nth ys k
        · by_cases q2 : n < nth ys k
          · have HV := Lib.hid (show r ++ [n] ++ [nth ys k] = ins n (ys.take (k + 1)) by
              rw [HT.out, ins_lt n _ _ HALL.out, ins, if_pos q2, HRR.out]; simp)
            have HX := Lib.hid (show ∃ x ∈ ys.take (k + 1), n ≤ x from ⟨nth ys k, by rw [HT.out]; simp, q1⟩)
            go_wp2_with (first
              | (at_builtin; refine wpList_append_own _ rfl _ _ 33 rfl w.heap.size 2 i0 (.int .i64 0) 1 8 Tryd.underlying33 hi hz0 hz1 hz2 rfl (by decide) _ _ _ rfl (World.ownsRow.alloc HO.out _) ⟨wr.heap.size, 0, none⟩ 1 1 [.int .i64 n] rfl rfl (cell_one_new _ _ _) (by simp [Value.oneCell']) (by unfold maxLen; omega) (by omega) (by simp; omega) ?_; intro v1 w1 hown1 hgrow1 _; have HO1 := Lib.hid (show OwnI w1 w.heap.size v1 (r ++ [n]) by unfold OwnI; rw [vals_snoc, List.length_append]; exact hown1); have HB1 := Lib.hid ((HB.out.alloc hszr _).grown hgrow1 (by simp; omega) (fun q hq => (World.ownsRow.lt HO.out q hq).1)); have hsz1 := HB1.out.size; have hl1 : (r ++ [n]).length ≤ 1048580 := (by simp; omega); have hcw : w1.cell? ⟨b, o + k, none⟩ = some (.int .i64 (nth ys k))  := (HA0.out.step HB1.out).cellK hlt; clear hown1 hgrow1)
              | (at_builtin; refine wpList_append_own _ rfl _ _ 33 rfl w.heap.size 2 i0 (.int .i64 0) 1 8 Tryd.underlying33 hi hz0 hz1 hz2 rfl (by decide) _ _ _ rfl (World.ownsRow.alloc HO1.out _) ⟨w1.heap.size, 0, none⟩ 1 1 [.int .i64 (nth ys k)] rfl rfl (cell_one_new _ _ _) (by simp [Value.oneCell']) (by unfold maxLen; omega) (by omega) (by simp; omega) ?_; intro v2 w2 hown2 hgrow2 _; have HO2 := Lib.hid (show OwnI w2 w.heap.size v2 (r ++ [n] ++ [nth ys k]) by unfold OwnI; rw [vals_snoc, List.length_append]; exact hown2); have HB2 := Lib.hid ((HB1.out.alloc hsz1 _).grown hgrow2 (by simp; omega) (fun q hq => (World.ownsRow.lt HO1.out q hq).1)); clear hown2 hgrow2))
            go_wp2
            go_roundw
            case rel => exact ⟨k + 1, _, by omega, by go_num, HO2.out, by simp; omega, HB2.out, .inr ⟨rfl, HV.out, HX.out⟩⟩
            case measure => simp [intOf]; omega
          · have HV := Lib.hid (show r ++ [nth ys k] = ins n (ys.take (k + 1)) by
              rw [HT.out, ins_lt n _ _ HALL.out, ins, if_neg q2, if_pos (by omega), HRR.out])
            have HX := Lib.hid (show ∃ x ∈ ys.take (k + 1), n ≤ x from ⟨nth ys k, by rw [HT.out]; simp, q1⟩)
            go_wp2_with (at_builtin; refine wpList_append_own _ rfl _ _ 33 rfl w.heap.size 2 i0 (.int .i64 0) 1 8 Tryd.underlying33 hi hz0 hz1 hz2 rfl (by decide) _ _ _ rfl (World.ownsRow.alloc HO.out _) ⟨wr.heap.size, 0, none⟩ 1 1 [.int .i64 (nth ys k)] rfl rfl (cell_one_new _ _ _) (by simp [Value.oneCell']) (by unfold maxLen; omega) (by omega) (by simp; omega) ?_; intro v1 w1 hown1 hgrow1 _; have HO1 := Lib.hid (show OwnI w1 w.heap.size v1 (r ++ [nth ys k]) by unfold OwnI; rw [vals_snoc, List.length_append]; exact hown1); have HB1 := Lib.hid ((HB.out.alloc hszr _).grown hgrow1 (by simp; omega) (fun q hq => (World.ownsRow.lt HO.out q hq).1)); clear hown1 hgrow1)
            go_wp2
            go_roundw
            case rel => exact ⟨k + 1, _, by omega, by go_num, HO1.out, by simp; omega, HB1.out, .inr ⟨rfl, HV.out, HX.out⟩⟩
            case measure => simp [intOf]; omega
        · have HV := Lib.hid (show r ++ [nth ys k] = ys.take (k + 1) by rw [HT.out, HRR.out])
          have HX := Lib.hid (show ∀ x ∈ ys.take (k + 1), x < n by
            rw [HT.out]
            intro x hx
            rcases List.mem_append.1 hx with h1 | h1
            · exact HALL.out x h1
            · obtain rfl := List.mem_singleton.1 h1; omega)
          go_wp2_with (at_builtin; refine wpList_append_own _ rfl _ _ 33 rfl w.heap.size 2 i0 (.int .i64 0) 1 8 Tryd.underlying33 hi hz0 hz1 hz2 rfl (by decide) _ _ _ rfl (World.ownsRow.alloc HO.out _) ⟨wr.heap.size, 0, none⟩ 1 1 [.int .i64 (nth ys k)] rfl rfl (cell_one_new _ _ _) (by simp [Value.oneCell']) (by unfold maxLen; omega) (by omega) (by simp; omega) ?_; intro v1 w1 hown1 hgrow1 _; have HO1 := Lib.hid (show OwnI w1 w.heap.size v1 (r ++ [nth ys k]) by unfold OwnI; rw [vals_snoc, List.length_append]; exact hown1); have HB1 := Lib.hid ((HB.out.alloc hszr _).grown hgrow1 (by simp; omega) (fun q hq => (World.ownsRow.lt HO.out q hq).1)); clear hown1 hgrow1)
          go_wp2
          go_roundw
          case rel => exact ⟨k + 1, _, by omega, by go_num, HO1.out, by simp; omega, HB1.out, .inl ⟨rfl, HV.out, HX.out⟩⟩
          case measure => simp [intOf]; omega
      · have HV := Lib.hid (show r ++ [nth ys k] = ins n (ys.take (k + 1)) by rw [HT.out, ins_ge n _ _ hex, hr])
        have HX := Lib.hid (show ∃ x ∈ ys.take (k + 1), n ≤ x by
          obtain ⟨x, h1, h2⟩ := hex
          exact ⟨x, by rw [HT.out]; exact List.mem_append.2 (.inl h1), h2⟩)
        clear hr hex
        go_wp2_with (at_builtin; refine wpList_append_own _ rfl _ _ 33 rfl w.heap.size 2 i0 (.int .i64 0) 1 8 Tryd.underlying33 hi hz0 hz1 hz2 rfl (by decide) _ _ _ rfl (World.ownsRow.alloc HO.out _) ⟨wr.heap.size, 0, none⟩ 1 1 [.int .i64 (nth ys k)] rfl rfl (cell_one_new _ _ _) (by simp [Value.oneCell']) (by unfold maxLen; omega) (by omega) (by simp; omega) ?_; intro v1 w1 hown1 hgrow1 _; have HO1 := Lib.hid (show OwnI w1 w.heap.size v1 (r ++ [nth ys k]) by unfold OwnI; rw [vals_snoc, List.length_append]; exact hown1); have HB1 := Lib.hid ((HB.out.alloc hszr _).grown hgrow1 (by simp; omega) (fun q hq => (World.ownsRow.lt HO.out q hq).1)); clear hown1 hgrow1)
        go_wp2
        go_roundw
        case rel => exact ⟨k + 1, _, by omega, by go_num, HO1.out, by simp; omega, HB1.out, .inr ⟨rfl, HV.out, HX.out⟩⟩
        case measure => simp [intOf]; omega
    · have HE := Lib.hid (show ys.take k = ys by rw [List.take_of_length_le (by omega)])
      rcases hst with ⟨rfl, hr, hall⟩ | ⟨rfl, hr, hex⟩
      · have HV := Lib.hid (show r ++ [n] = ins n ys by
          have h2 := ins_lt n [] _ hall
          rw [List.append_nil, HE.out] at h2
          rw [h2, hr, HE.out]; rfl)
        clear hr hall
        go_wp2_with (at_builtin; refine wpList_append_own _ rfl _ _ 33 rfl w.heap.size 2 i0 (.int .i64 0) 1 8 Tryd.underlying33 hi hz0 hz1 hz2 rfl (by decide) _ _ _ rfl (World.ownsRow.alloc HO.out _) ⟨wr.heap.size, 0, none⟩ 1 1 [.int .i64 n] rfl rfl (cell_one_new _ _ _) (by simp [Value.oneCell']) (by unfold maxLen; omega) (by omega) (by simp; omega) ?_; intro v1 w1 hown1 hgrow1 _; have HO1 := Lib.hid (show OwnI w1 w.heap.size v1 (r ++ [n]) by unfold OwnI; rw [vals_snoc, List.length_append]; exact hown1); have HB1 := Lib.hid ((HB.out.alloc hszr _).grown hgrow1 (by simp; omega) (fun q hq => (World.ownsRow.lt HO.out q hq).1)); clear hown1 hgrow1)
        go_wp2
        go_ret
        refine ⟨⟨_, rfl, ?_⟩, HB1.out⟩
        rw [← HV.out]; exact HO1.out
      · have HV := Lib.hid (show r = ins n ys by rw [hr, HE.out])
        clear hr hex
        go_wp2_with fail
        go_ret
        refine ⟨⟨_, rfl, ?_⟩, HB.out⟩
        rw [← HV.out]; exact HO.out

/-- The first k, each in its place. -/
def putsTo (zs : List Int) : Nat → List Int
  | 0 => []
  | k + 1 => ins (nth zs k) (putsTo zs k)
theorem puts_len (zs : List Int) : ∀ k, (putsTo zs k).length ≤ k
  | 0 => by simp [putsTo]
  | k + 1 => Nat.le_trans (ins_len _ _) (by have := puts_len zs k; omega)
theorem puts_up (zs : List Int) : ∀ k, (putsTo zs k).Pairwise (· < ·)
  | 0 => by simp [putsTo]
  | k + 1 => ins_up (puts_up zs k)
theorem mem_puts {zs : List Int} {x : Int} : ∀ {k : Nat}, x ∈ putsTo zs k ↔ ∃ i, i < k ∧ nth zs i = x
  | 0 => by simp [putsTo]
  | k + 1 => by
    rw [putsTo, mem_ins, mem_puts]
    constructor
    · rintro (⟨i, h1, h2⟩ | h)
      · exact ⟨i, by omega, h2⟩
      · exact ⟨k, by omega, h.symm⟩
    · rintro ⟨i, h1, h2⟩
      by_cases e : i = k
      · subst e; exact .inr h2.symm
      · exact .inl ⟨i, by omega, h2⟩
def Apart (zs : List Int) (k : Nat) : Prop := ∀ i j, i < j → j < k → nth zs i ≠ nth zs j
theorem puts_apart (zs : List Int) : ∀ k, (putsTo zs k).length = k ↔ Apart zs k
  | 0 => ⟨fun _ i j _ hj => absurd hj (Nat.not_lt_zero _), fun _ => rfl⟩
  | k + 1 => by
    have ih := puts_apart zs k
    have hl := puts_len zs k
    by_cases hm : nth zs k ∈ putsTo zs k
    · rw [putsTo, ins_in (puts_up zs k) hm]
      constructor
      · intro h; omega
      · intro h
        obtain ⟨i, h1, h2⟩ := mem_puts.1 hm
        exact absurd h2 (h i k h1 (by omega))
    · rw [putsTo, ins_new hm]
      constructor
      · intro h i j hi hj
        by_cases e : j = k
        · subst e; exact fun q => hm (mem_puts.2 ⟨i, hi, q⟩)
        · exact ih.1 (by omega) i j hi (by omega)
      · intro h
        rw [ih.2 fun i j hi hj => h i j hi (by omega)]

set_option maxRecDepth 100000 in
set_option maxHeartbeats 1000000 in
theorem l01Order_any (a : Option Addr) (zs : List Int) (c : Nat) (h : Int) (w : World) (h1 : 1 ≤ h) (h7 : h ≤ 7) (hr : Ints w a zs) (hl : zs.length ≤ 1048576) :
    Calls Tryd.prog 42 #[.slice a zs.length c, .int .i64 h] w fun e w' => e = .returned (.bool (tell (OrdOk h zs))) ∧ Below w.heap.size w w' := by
  have HA0 := Lib.hid hr
  clear hr
  go_enter Tryd.func42, Tryd.ntmps42
  go_wp2_with fail
  have hb1 := (Below.refl w.heap.size w).alloc (Nat.le_refl _) (.cells #[] 2)
  go_loopw [5, 6] (fun v i wr => ∃ (k : Nat) (g : Option Addr) (cg : Nat), k ≤ zs.length ∧ i = .int .i64 k ∧ v = .slice g (putsTo zs k).length cg ∧ Ints wr g (putsTo zs k) ∧ (∀ i, i < k → 0 ≤ nth zs i ∧ nth zs i < h) ∧ Below w.heap.size w wr)
    (fun _ i _ => zs.length - (intOf i).toNat)
  case atStart => exact ⟨0, _, _, by omega, rfl, rfl, .inl rfl, fun i hi => absurd hi (Nat.not_lt_zero _), hb1⟩
  case round =>
    obtain ⟨k, g, cg, hk, rfl, rfl, hg, hin, hb⟩ := hrel
    have HG := Lib.hid hg
    have HB := Lib.hid hb
    have HIN := Lib.hid hin
    have HA := Lib.hid (HA0.out.step hb)
    have hpl := puts_len zs k
    clear hg hb hin hb1
    by_cases hlt : k < zs.length
    · rcases HA.out with h | ⟨b, o, rfl, hc⟩
      · rw [h] at hlt; exact absurd hlt (Nat.not_lt_zero _)
      have hcell := hc k hlt
      have hi0 : (k : Int) < (zs.length : Int) := by omega
      clear hc
      by_cases hr : 0 ≤ nth zs k ∧ nth zs k < h
      · have t1 := Lib.hid (show (decide ((0 : Int) ≤ nth zs k) && decide (nth zs k ≤ h - 1)) = true by simp; omega)
        have HN := Lib.hid (show ∀ i, i < k + 1 → 0 ≤ nth zs i ∧ nth zs i < h from fun i hi => by
          by_cases e : i = k
          · subst e; exact hr
          · exact HIN.out i (by omega))
        have HP := Lib.hid (show putsTo zs (k + 1) = ins (nth zs k) (putsTo zs k) from rfl)
        clear hr
        generalize putsTo zs k = P at *
        go_wp2_with fail
        refine (l00In_val (nth zs k) 0 (h - 1) true _ t1.out).mono ?_
        rintro e w' ⟨rfl, rfl⟩
        go_wp2_with fail
        refine (l00Put_any g P cg (nth zs k) wr HG.out (by omega)).mono ?_
        rintro e w' ⟨⟨u, rfl, hu⟩, hb⟩
        obtain ⟨ua, uc, rfl, hui, -⟩ := hu.ints
        have HU := Lib.hid hui
        have HB2 := Lib.hid (chain HB.out hb)
        clear hu hb hui
        go_wp2_with fail
        go_roundw
        case rel => exact ⟨k + 1, ua, uc, by omega, by go_num, by rw [HP.out], by rw [HP.out]; exact HU.out, HN.out, HB2.out⟩
        case measure => simp [intOf]; omega
      · have t1 := Lib.hid (show (decide ((0 : Int) ≤ nth zs k) && decide (nth zs k ≤ h - 1)) = false by simp; omega)
        have HN := Lib.hid (tell_false (p := OrdOk h zs) (fun q => hr (q.2.1 k hlt)))
        clear hr
        generalize putsTo zs k = P at *
        go_wp2_with fail
        refine (l00In_val (nth zs k) 0 (h - 1) false _ t1.out).mono ?_
        rintro e w' ⟨rfl, rfl⟩
        go_wp2_with fail
        go_ret
        exact ⟨ret_bool HN.out.symm, HB.out⟩
    · have hkl : k = zs.length := by omega
      have HP := Lib.hid (puts_apart zs k)
      by_cases hlen : (zs.length : Int) = h
      · have q1 : ((zs.length : Int) == h) = true := by simp [hlen]
        by_cases hput : ((putsTo zs k).length : Int) = h
        · have q2 : (((putsTo zs k).length : Int) == h) = true := by simp [hput]
          have HN := Lib.hid (tell_true (p := OrdOk h zs) ⟨hlen, fun i hi => HIN.out i (by omega), fun i j hi hj => HP.out.1 (by omega) i j hi (by omega)⟩)
          clear hlen hput
          generalize putsTo zs k = P at *
          go_wp2_with fail
          go_ret
          exact ⟨ret_bool HN.out.symm, HB.out⟩
        · have q2 : (((putsTo zs k).length : Int) == h) = false := by simp [hput]
          have HN := Lib.hid (tell_false (p := OrdOk h zs) (fun q => hput (by have := HP.out.2 (fun i j hi hj => q.2.2 i j hi (by omega)); omega)))
          clear hlen hput
          generalize putsTo zs k = P at *
          go_wp2_with fail
          go_ret
          exact ⟨ret_bool HN.out.symm, HB.out⟩
      · have q1 : ((zs.length : Int) == h) = false := by simp [hlen]
        have HN := Lib.hid (tell_false (p := OrdOk h zs) (fun q => hlen q.1))
        clear hlen
        generalize putsTo zs k = P at *
        go_wp2_with fail
        go_ret
        exact ⟨ret_bool HN.out.symm, HB.out⟩
end Go.Proofs.YtnalbonnjcphkaaDoor
