/- Slices of bytes that are only read: a2Long, a2At; how they are opened. -/
import Derived.Test.YtpifgapogbbcnaaKa
namespace Go.Proofs.Ytpifgapogbbcnaa
open Go.ChangeShapes Go.WideShapes Go.ChangeAt Go.RowKit Go.Deep Go.Joins
set_option linter.unusedVariables false

/-- A slice of bytes: its cells, up to its length. -/
def Bytes (w : World) (a : Option Addr) (zs : List Int) : Prop :=
  (zs = [] ∨ ∃ b o, a = some ⟨b, o, none⟩ ∧ ∀ i, i < zs.length → w.cell? ⟨b, o + i, none⟩ = some (.int .u8 (nth zs i))) ∧ ∀ i, i < zs.length → 0 ≤ nth zs i ∧ nth zs i ≤ 255

section
variable {H : Type} {enc : TypeId × Value → H} {w : World} {base : Nat} {held : Bool}
set_option maxRecDepth 100000 in
theorem bytes_of_cells {a : Option Addr} {L C : Nat} {Z : List Int} (hL : L ≤ C) (hZ : Z.length = C) (hn : a = none → C = 0) (hc : ∀ a', a = some a' → ∀ c, c < C → w.cell? (a'.add c) = some (.int .u8 (Z.getD c 0))) (hw : ∀ n ∈ Z, (Lit.int .u8 n).wf = true) : Bytes w a (Z.take L) := by
  refine ⟨?_, fun i hi => ?_⟩
  · by_cases h0 : L = 0
    · subst h0; exact .inl (by simp)
    · cases a with
      | none => have := hn rfl; omega
      | some a' =>
        obtain ⟨b, o, sp⟩ := a'
        have hsp : sp = none := by simpa [Addr.add] using World.cell?_spot (hc _ rfl 0 (by omega))
        subst hsp
        refine .inr ⟨b, o, rfl, fun i hi => ?_⟩
        have hi' : i < L := by simpa [hZ, hL] using hi
        rw [nth_take Z hi' (by omega), ← add_plain]
        exact hc _ rfl i (by omega)
  · have hm : nth (Z.take L) i ∈ Z := by
      rw [nth_lt hi]
      exact List.mem_of_mem_take (List.getElem_mem hi)
    have := hw _ hm
    simp [Lit.wf, IntKind.min, IntKind.max, IntKind.signed, IntKind.bits] at this
    omega
set_option maxRecDepth 100000 in
/-- A SLICE OF BYTES, OPENED. -/
theorem open_bytes1 {fuel : Nat} {a0 : Option Addr} {n c : Nat} {x : DataW H × List MemPlace} (h : DataW.trod enc Try.prog w base (fun _ => true) held fuel 22 [.slice a0 n c] = some x) :
    ∃ zs, n = zs.length ∧ Bytes w a0 zs ∧ zs.length ≤ 9223372036854775807 := by
  rcases open_ints Try.underlying22 Try.underlying5 (by kernel_rfl) h with ⟨hcs, _⟩ | ⟨a', len', cap', zs, hcs, _, hl', hm', hz, _, hcell, hwf⟩
  · simp at hcs
    obtain ⟨rfl, rfl, rfl⟩ := hcs
    exact ⟨[], rfl, ⟨.inl rfl, fun i hi => absurd hi (Nat.not_lt_zero _)⟩, by simp⟩
  · simp at hcs
    obtain ⟨rfl, rfl, rfl⟩ := hcs
    simp only [if_true] at hz
    have hm : c ≤ 9223372036854775807 := hm'
    refine ⟨zs.take n, by simp; omega, bytes_of_cells hl' hz (fun e => by cases e) (fun a'' e c hc => by cases e; exact hcell c (by omega)) hwf, by simp; omega⟩
end

/-- What a byte chooses: a number from 0 to n - 1. -/
noncomputable def atOf (zs : List Int) (i : Nat) (n : Int) : Int := if tell (i < zs.length) = true then nth zs i % n else 0
theorem atOf_range (zs : List Int) (i : Nat) {n : Int} (h : 1 ≤ n) : 0 ≤ atOf zs i n ∧ atOf zs i n < n := by
  unfold atOf
  by_cases hi : i < zs.length
  · rw [if_pos (tell_true hi)]; exact ⟨Int.emod_nonneg _ (by omega), Int.emod_lt_of_pos _ (by omega)⟩
  · rw [if_neg (by rw [tell_false hi]; simp)]; omega

set_option maxRecDepth 100000 in
theorem a2Long_any (a0 a1 : Option Addr) (z0 z1 : List Int) (c0 c1 : Nat) (w : World) : Calls Try.prog 5 #[.slice a0 z0.length c0, .slice a1 z1.length c1] w fun e w' => e = .returned (.bool (tell (3000 < z0.length ∨ 3000 < z1.length))) ∧ w = w' := by
  by_cases h0 : (3000 : Int) < (z0.length : Int)
  · have HT := Lib.hid (tell_true (p := 3000 < z0.length ∨ 3000 < z1.length) (.inl (by omega)))
    go_enter Try.func5, Try.ntmps5
    go_wp2
    go_ret
    exact ⟨ret_bool HT.out.symm, rfl⟩
  · by_cases h1 : (3000 : Int) < (z1.length : Int)
    · have HT := Lib.hid (tell_true (p := 3000 < z0.length ∨ 3000 < z1.length) (.inr (by omega)))
      go_enter Try.func5, Try.ntmps5
      go_wp2
      go_ret
      exact ⟨ret_bool HT.out.symm, rfl⟩
    · have HT := Lib.hid (tell_false (p := 3000 < z0.length ∨ 3000 < z1.length) (by omega))
      go_enter Try.func5, Try.ntmps5
      go_wp2
      go_ret
      exact ⟨ret_bool HT.out.symm, rfl⟩
end Go.Proofs.Ytpifgapogbbcnaa
