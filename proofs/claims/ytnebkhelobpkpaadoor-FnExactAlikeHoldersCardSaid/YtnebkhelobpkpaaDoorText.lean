/- The contracts of a group's text: the model's GroupText; text, the program's GroupText. -/
import Derived.Test.YtnebkhelobpkpaaDoorList
import Derived.Test.YtnebkhelobpkpaaDoorOpen
namespace Go.Proofs.YtnebkhelobpkpaaDoor
open Go.RowKit Go.Deep
set_option linter.unusedVariables false

theorem Tryd.infoUint8 : (Tryd.prog.info? 5).map (fun i => (i.zero, i.size, i.bytes)) = some (some (.int .u8 0), 1, 1) := by kernel_rfl

def letters (zs : List Int) : List Int := zs.map fun z => 65 + z
def textOf (zs : List Int) : ByteArray := if zs = [] then ⟨#[45]⟩ else strOfNums (letters zs)
noncomputable def groupText (zs : List Int) : ByteArray := if tell (IsGrp 7 zs) = true then textOf zs else ⟨#[]⟩
def valsB (ns : List Int) : List Value := ns.map (Value.int .u8)
/-- Bytes that a call has made. -/
def OwnB (w : World) (base : Nat) (v : Value) (ns : List Int) : Prop := w.ownsRow base 5 1 v ns.length (valsB ns)

theorem OwnB.string {w : World} {base : Nat} {v : Value} {ns : List Int} (h : OwnB w base v ns) (hne : ns ≠ []) : ∃ a c, v = .slice a ns.length c ∧ (convert 210 9 v).run Tryd.prog w = .ok (.string (strOfNums ns)) w := by
  rcases h.2 with ⟨hv, hn⟩ | ⟨g, cap, cur, hv, hb, hg, hnc, hcm, hcs, htake⟩
  · exact absurd (List.eq_nil_of_length_eq_zero hn) hne
  · subst hv
    refine ⟨_, _, rfl, run_convert_bytes_arg (P := Tryd.prog) w 210 5 Tryd.underlying210 Tryd.underlying5 g 0 ns.length cap ns rfl (fun i hi => ?_) _ Tryd.underlying9⟩
    rw [Nat.zero_add, World.ownsRow.cellAt h i (by omega)]
    simp [valsB, hi, List.getD]

theorem letters_take (zs : List Int) {k : Nat} (h : k < zs.length) : letters (zs.take (k + 1)) = letters (zs.take k) ++ [65 + nth zs k] := by
  rw [List.take_succ_eq_append_getElem h, nth_lt h]; simp only [letters, List.map_append, List.map_cons, List.map_nil]
theorem letters_len (zs : List Int) {k : Nat} (h : k ≤ zs.length) : (letters (zs.take k)).length = k := by simp [letters]; omega
theorem valsB_snoc (zs : List Int) (z : Int) : valsB (zs ++ [z]) = valsB zs ++ [.int .u8 z] := by simp [valsB]

theorem grp_len {l : List Int} (h : IsGrp 7 l) : l.length ≤ 7 := by
  have : ∀ k, k < l.length → (k : Int) ≤ nth l k := by
    intro k
    induction k with
    | zero => intro hk; exact (h 0 hk).1
    | succ k ih =>
      intro hk
      have h1 := ih (by omega)
      have h2 := (h (k + 1) hk).2.2 (by omega)
      simp at h2
      omega
  rcases Nat.lt_or_ge 7 l.length with h0 | h0
  · have h1 := this 7 h0
    have h2 := (h 7 h0).2.1
    omega
  · exact h0

end Go.Proofs.YtnebkhelobpkpaaDoor
