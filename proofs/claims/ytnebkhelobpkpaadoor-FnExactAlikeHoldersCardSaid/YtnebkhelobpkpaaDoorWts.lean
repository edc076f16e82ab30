/- The model's families by weights: l01Weighted, ThresholdFamily, WeightedFamily. -/
import Derived.Test.YtnebkhelobpkpaaDoorFrom
namespace Go.Proofs.YtnebkhelobpkpaaDoor
open Go.RowKit Go.Deep Go.Shelf
set_option linter.unusedVariables false

/-- The block of an answer that is not yet there. -/
def Boxes1 (W : World) (B : Nat) : Prop := W.heap[B]? = some (.cells #[.int .i64 0, .slice none 0 0] 29 (0, 0))
theorem Boxes1.lt {W : World} {B : Nat} (h : Boxes1 W B) : B < W.heap.size := (Array.getElem?_eq_some_iff.1 h).1
theorem Boxes1.step {W W' : World} {B : Nat} (h : Boxes1 W B) (hb : Below W.heap.size W W') : Boxes1 W' B := (hb.block B h.lt).trans h
theorem Boxes1.c0 {W : World} {B : Nat} (h : Boxes1 W B) : W.cell? ⟨B, 0, none⟩ = some (.int .i64 0) := by simp [World.cell?, show W.heap[B]? = _ from h]
theorem Boxes1.c1 {W : World} {B : Nat} (h : Boxes1 W B) : W.cell? ⟨B, 1, none⟩ = some (.slice none 0 0) := by simp [World.cell?, show W.heap[B]? = _ from h]
theorem Boxes1.f {W : World} {B : Nat} (h : Boxes1 W B) (i : Nat) : W.frozen? ⟨B, i, none⟩ = false := by simp [World.frozen?, show W.heap[B]? = _ from h]

/-- A family and a code, as an answer. -/
structure FR where
  h : Int
  zss : List (List Int)
  code : Int
/-- What gives such an answer, to be read. -/
structure GivesFC (W : World) (r : FR) (e : Ending) (w' : World) : Prop where
  val : ∃ a c, e = .returned (.tuple #[.agg #[.int .i64 r.h, .slice a r.zss.length c], .int .i64 r.code]) ∧ RowsF w' W.heap.size a r.zss
  below : Below W.heap.size W w'
/-- What gives such an answer in memory of its own. -/
structure GivesFO (W : World) (r : FR) (e : Ending) (w' : World) : Prop where
  val : ∃ v us, e = .returned (.tuple #[.agg #[.int .i64 r.h, v], .int .i64 r.code]) ∧ w'.ownsRow W.heap.size 26 1 v r.zss.length us ∧ RowsOwn w' W.heap.size us r.zss
  below : Below W.heap.size W w'
def noFam (code : Int) : FR := ⟨0, [], code⟩
theorem GivesFC.no {W w' : World} (code : Int) (hb : Below W.heap.size W w') : GivesFC W (noFam code) (.returned (.tuple #[.agg #[.int .i64 0, .slice none 0 0], .int .i64 code])) w' :=
  ⟨⟨none, 0, rfl, .inl rfl⟩, hb⟩
theorem GivesFO.no {W w' : World} (code : Int) (hb : Below W.heap.size W w') : GivesFO W (noFam code) (.returned (.tuple #[.agg #[.int .i64 0, .slice none 0 0], .int .i64 code])) w' :=
  ⟨⟨.slice none 0 0, [], rfl, World.ownsRow_nil _ _ _ _, RowsOwn.nil _ _⟩, hb⟩

/-- The weight of a group, of its first holders. -/
def wsum (zs : List Int) (x : Nat) : Nat → Int
  | 0 => 0
  | j + 1 => wsum zs x j + if x.testBit j = true then nth zs j else 0
theorem wsum_hit {zs : List Int} {x j : Nat} (h : x.testBit j = true) : wsum zs x (j + 1) = wsum zs x j + nth zs j := by rw [wsum, if_pos h]
theorem wsum_miss {zs : List Int} {x j : Nat} (h : x.testBit j = false) : wsum zs x (j + 1) = wsum zs x j := by rw [wsum, if_neg (by simp [h]), Int.add_zero]
theorem wsum_bd {zs : List Int} (x : Nat) (hw : ∀ i, i < zs.length → 0 ≤ nth zs i ∧ nth zs i ≤ 1000) : ∀ j, j ≤ zs.length → 0 ≤ wsum zs x j ∧ wsum zs x j ≤ 1000 * j
  | 0, _ => by simp [wsum]
  | j + 1, hj => by
    have h1 := wsum_bd x hw j (by omega)
    have h2 := hw j (by omega)
    rw [wsum]
    split <;> omega
def heavy (zs : List Int) (quota : Int) (x : Nat) : Bool := decide (quota ≤ wsum zs x zs.length)
def bools (p : Nat → Bool) (k : Nat) : List Value := (List.range k).map fun x => .bool (p x)
theorem bools_len (p : Nat → Bool) (k : Nat) : (bools p k).length = k := by simp [bools]
theorem bools_succ (p : Nat → Bool) (k : Nat) : bools p (k + 1) = bools p k ++ [.bool (p k)] := by simp [bools, List.range_succ]
theorem Tryd.infoBool : (Tryd.prog.info? 4).map (fun i => (i.zero, i.size, i.bytes)) = some (some (.bool false), 1, 1) := by kernel_rfl
theorem Bools.of_row {W : World} {base g cap n : Nat} {p : Nat → Bool} (h : W.ownsRow base 4 1 (.slice (some ⟨g, 0, none⟩) n cap) n (bools p n)) : Bools W (some ⟨g, 0, none⟩) n p :=
  ⟨g, 0, rfl, fun i hi => by rw [Nat.zero_add, World.ownsRow.cellAt h i (by omega)]; simp [bools, hi]⟩
theorem wrap64_two {n : Nat} (h : n ≤ 7) : wrap64 ((2 : Int) ^ n) = ((2 ^ n : Nat) : Int) := by
  have h1 : (2 : Nat) ^ n ≤ 2 ^ 7 := Nat.pow_le_pow_right (by omega) h
  have e : (2 : Int) ^ n = ((2 ^ n : Nat) : Int) := by simp
  rw [e]
  generalize (2 : Nat) ^ n = m at *
  unfold wrap64
  omega

end Go.Proofs.YtnebkhelobpkpaaDoor
