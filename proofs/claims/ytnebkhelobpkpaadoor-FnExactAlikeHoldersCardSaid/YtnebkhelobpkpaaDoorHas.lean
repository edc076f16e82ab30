/- The model's l00Has, l00Put, l01Order. -/
import Derived.Test.YtnebkhelobpkpaaDoorRenI
namespace Go.Proofs.YtnebkhelobpkpaaDoor
open Go.RowKit Go.Deep Go.Shelf
set_option linter.unusedVariables false

def HasIn (zs : List Int) (n : Int) : Prop := ∃ i, i < zs.length ∧ nth zs i = n
set_option maxRecDepth 100000 in
theorem l00Has_any (a : Option Addr) (zs : List Int) (c : Nat) (n : Int) (w : World) (h : Ints w a zs) (hl : zs.length ≤ 9223372036854775807) :
    Calls Tryd.prog 121 #[.slice a zs.length c, .int .i64 n] w fun e w' => e = .returned (.bool (tell (HasIn zs n))) ∧ w = w' := by
  go_enter Tryd.func121, Tryd.ntmps121
  go_wp2_with fail
  go_loop [5] (fun i => ∃ k : Nat, i = .int .i64 k ∧ k ≤ zs.length ∧ ∀ j, j < k → nth zs j ≠ n) (fun i => zs.length - (intOf i).toNat)
  case atStart => exact ⟨0, rfl, Nat.zero_le _, fun j hj => absurd hj (Nat.not_lt_zero _)⟩
  case round =>
    obtain ⟨k, rfl, hk, hs⟩ := hrel
    have HS := Lib.hid hs
    clear hs
    by_cases hlt : k < zs.length
    · rcases h with h | ⟨b, o, rfl, hc⟩
      · rw [h] at hlt; exact absurd hlt (Nat.not_lt_zero _)
      have hcell := hc k hlt
      have hi0 : (k : Int) < (zs.length : Int) := by omega
      clear hc
      by_cases he : nth zs k = n
      · have hq : (nth zs k == n) = true := by simp [he]
        have HN := Lib.hid (tell_true (p := HasIn zs n) ⟨k, hlt, he⟩)
        clear he
        go_wp2_with fail
        go_ret
        exact ⟨ret_bool HN.out.symm, rfl⟩
      · have hq : (nth zs k == n) = false := by simp [he]
        have HE := Lib.hid he
        clear he
        go_wp2_with fail
        go_round
        case rel => exact ⟨k + 1, by go_num, by omega, fun j hj => by
          by_cases e : j = k
          · subst e; exact HE.out
          · exact HS.out j (by omega)⟩
        case measure => simp [intOf]; omega
    · have HN := Lib.hid (tell_false (p := HasIn zs n) (fun ⟨i, h1, h2⟩ => HS.out i (by omega) h2))
      go_wp2_with fail
      go_ret
      exact ⟨ret_bool HN.out.symm, rfl⟩

/-- A number in its place. -/
def ins (n : Int) : List Int → List Int
  | [] => [n]
  | y :: t => if n < y then n :: y :: t else if y = n then y :: t else y :: ins n t
theorem ins_ge (n y : Int) : ∀ l : List Int, (∃ x ∈ l, n ≤ x) → ins n (l ++ [y]) = ins n l ++ [y]
  | [], ⟨x, h, _⟩ => by cases h
  | a :: t, ⟨x, h1, h2⟩ => by
    rw [List.cons_append, ins, ins]
    split
    · rfl
    · rename_i q
      split
      · rfl
      · rename_i r
        rw [ins_ge n y t ⟨x, by
          rcases List.mem_cons.1 h1 with rfl | h3
          · omega
          · exact h3, h2⟩, List.cons_append]
theorem ins_lt (n : Int) (l' : List Int) : ∀ l : List Int, (∀ x ∈ l, x < n) → ins n (l ++ l') = l ++ ins n l'
  | [], _ => rfl
  | a :: t, h => by
    have h1 := h a (by simp)
    rw [List.cons_append, ins, if_neg (by omega), if_neg (by omega), ins_lt n l' t fun x hx => h x (by simp [hx]), List.cons_append]
theorem mem_ins {n x : Int} : ∀ {l : List Int}, x ∈ ins n l ↔ x ∈ l ∨ x = n
  | [] => by simp [ins]
  | a :: t => by
    rw [ins]
    split
    · simp only [List.mem_cons]
      constructor
      · rintro (h | h | h)
        · exact .inr h
        · exact .inl (.inl h)
        · exact .inl (.inr h)
      · rintro ((h | h) | h)
        · exact .inr (.inl h)
        · exact .inr (.inr h)
        · exact .inl h
    · split
      · rename_i h; subst h
        simp only [List.mem_cons]
        constructor
        · exact .inl
        · rintro (h | h)
          · exact h
          · exact .inl h
      · rw [List.mem_cons, mem_ins, List.mem_cons, or_assoc]
theorem ins_up {n : Int} : ∀ {l : List Int}, l.Pairwise (· < ·) → (ins n l).Pairwise (· < ·)
  | [], _ => by simp [ins]
  | a :: t, h => by
    obtain ⟨h1, h2⟩ := List.pairwise_cons.1 h
    rw [ins]
    split
    · rename_i q
      refine List.pairwise_cons.2 ⟨fun x hx => ?_, h⟩
      rcases List.mem_cons.1 hx with rfl | h3
      · exact q
      · have := h1 x h3; omega
    · split
      · exact h
      · refine List.pairwise_cons.2 ⟨fun x hx => ?_, ins_up h2⟩
        rcases mem_ins.1 hx with h3 | rfl
        · exact h1 x h3
        · omega
theorem ins_in {n : Int} : ∀ {l : List Int}, l.Pairwise (· < ·) → n ∈ l → (ins n l).length = l.length
  | [], _, h => by cases h
  | a :: t, h, hm => by
    obtain ⟨h1, h2⟩ := List.pairwise_cons.1 h
    rw [ins]
    split
    · rename_i q
      rcases List.mem_cons.1 hm with rfl | h3
      · omega
      · have := h1 n h3; omega
    · split
      · rfl
      · rename_i q r
        rw [List.length_cons, List.length_cons, ins_in h2]
        rcases List.mem_cons.1 hm with rfl | h3
        · exact absurd rfl r
        · exact h3
theorem ins_new {n : Int} : ∀ {l : List Int}, ¬ n ∈ l → (ins n l).length = l.length + 1
  | [], _ => rfl
  | a :: t, hm => by
    rw [ins]
    split
    · rfl
    · split
      · rename_i q r; subst r; exact absurd (by simp) hm
      · rw [List.length_cons, List.length_cons, ins_new fun h => hm (by simp [h])]
theorem ins_len (n : Int) (l : List Int) : (ins n l).length ≤ l.length + 1 := by
  induction l with
  | nil => simp [ins]
  | cons a t ih =>
    rw [ins]
    split
    · simp
    · split
      · simp
      · simp; omega

theorem take_next {ys : List Int} {k : Nat} (h : k < ys.length) : ys.take (k + 1) = ys.take k ++ [nth ys k] := by
  rw [nth_lt h, List.take_succ_eq_append_getElem h]

theorem Ints.cellK {w : World} {b o k : Nat} {zs : List Int} (h : Ints w (some ⟨b, o, none⟩) zs) (hk : k < zs.length) : w.cell? ⟨b, o + k, none⟩ = some (.int .i64 (nth zs k)) := by
  rcases h with h | ⟨b', o', e, hc⟩
  · rw [h] at hk; exact absurd hk (Nat.not_lt_zero _)
  · cases e; exact hc k hk

/-- The first k, each in its place. -/
def putsTo (zs : List Int) : Nat → List Int
  | 0 => []
  | k + 1 => ins (nth zs k) (putsTo zs k)
theorem puts_len (zs : List Int) : ∀ k, (putsTo zs k).length ≤ k
  | 0 => by simp [putsTo]
  | k + 1 => Nat.le_trans (ins_len _ _) (by have := puts_len zs k; omega)
theorem puts_up (zs : List Int) : ∀ k, (putsTo zs k).Pairwise (· < ·)
  | 0 => by simp [putsTo]
  | k + 1 => ins_up (puts_up zs k)
theorem mem_puts {zs : List Int} {x : Int} : ∀ {k : Nat}, x ∈ putsTo zs k ↔ ∃ i, i < k ∧ nth zs i = x
  | 0 => by simp [putsTo]
  | k + 1 => by
    rw [putsTo, mem_ins, mem_puts]
    constructor
    · rintro (⟨i, h1, h2⟩ | h)
      · exact ⟨i, by omega, h2⟩
      · exact ⟨k, by omega, h.symm⟩
    · rintro ⟨i, h1, h2⟩
      by_cases e : i = k
      · subst e; exact .inr h2.symm
      · exact .inl ⟨i, by omega, h2⟩
def Apart (zs : List Int) (k : Nat) : Prop := ∀ i j, i < j → j < k → nth zs i ≠ nth zs j
theorem puts_apart (zs : List Int) : ∀ k, (putsTo zs k).length = k ↔ Apart zs k
  | 0 => ⟨fun _ i j _ hj => absurd hj (Nat.not_lt_zero _), fun _ => rfl⟩
  | k + 1 => by
    have ih := puts_apart zs k
    have hl := puts_len zs k
    by_cases hm : nth zs k ∈ putsTo zs k
    · rw [putsTo, ins_in (puts_up zs k) hm]
      constructor
      · intro h; omega
      · intro h
        obtain ⟨i, h1, h2⟩ := mem_puts.1 hm
        exact absurd h2 (h i k h1 (by omega))
    · rw [putsTo, ins_new hm]
      constructor
      · intro h i j hi hj
        by_cases e : j = k
        · subst e; exact fun q => hm (mem_puts.2 ⟨i, hi, q⟩)
        · exact ih.1 (by omega) i j hi (by omega)
      · intro h
        rw [ih.2 fun i j hi hj => h i j hi (by omega)]

end Go.Proofs.YtnebkhelobpkpaaDoor
