/- All3 Rat Tbl Fw Dual Val Fs0 Fs1 Fs2 Fs3 Fs4 Fs5 Fs6 in one text. -/
import Derived.Test.YthmjcmhaijiedaaDoorRk
import Derived.Test.YthmjcmhaijiedaaDoorRvm
import Derived.Test.YthmjcmhaijiedaaDoorRvi
import Derived.Test.YthmjcmhaijiedaaDoorWts
import Derived.Test.YthmjcmhaijiedaaDoorNt
import Derived.Test.YthmjcmhaijiedaaDoorGr
import Derived.Test.YthmjcmhaijiedaaDoorTof
import Derived.Test.YthmjcmhaijiedaaDoorLeast
import Derived.WideMake
import Derived.Deep.WholeRow
namespace Go.Proofs.YthmjcmhaijiedaaDoor
open Go.RowKit Go.Deep
theorem Boxes.all3 {W : World} {B : Nat} {t : TypeId} {u0 u1 u2 : Value} (h : Boxes W B t #[u0, u1, u2]) (x0 x1 x2 : Value) : Boxes (((W.setCell ⟨B, 0, none⟩ x0).setCell ⟨B, 1, none⟩ x1).setCell ⟨B, 2, none⟩ x2) B t #[x0, x1, x2] := by
  unfold Boxes at h ⊢
  simp [World.setCell, Array.getElem?_modify, h]
end Go.Proofs.YthmjcmhaijiedaaDoor

namespace Go.Proofs.YthmjcmhaijiedaaDoor
open Go.RowKit Go.Deep
set_option linter.unusedVariables false

theorem bitsTo_ltP {m : Nat} {l : List Int} (h : IsGrp (m : Int) l) : ∀ k, k ≤ l.length → bitsTo l k < 2 ^ m
  | 0, _ => by simp [bitsTo, Nat.pow_pos]
  | k + 1, hk => by
    have h1 := bitsTo_ltP h k (by omega)
    obtain ⟨h2, h3, _⟩ := h k (by omega)
    exact Nat.or_lt_two_pow h1 (Nat.pow_lt_pow_right (by omega) (by omega))
theorem bitsOf_ltP {m : Nat} {l : List Int} (h : IsGrp (m : Int) l) : bitsOf l < 2 ^ m := bitsTo_ltP h _ (Nat.le_refl _)

set_option maxRecDepth 100000 in
set_option maxHeartbeats 400000 in
theorem l07Bits_any (a : Option Addr) (zs : List Int) (c : Nat) (n : Int) (w : World) (h : Ints w a zs) (hg : IsGrp n zs) (hn : n ≤ 7) (hl : zs.length ≤ 9223372036854775807) :
    Calls Tryd.prog 100 #[.slice a zs.length c] w fun e w' => e = .returned (.int .i64 (bitsOf zs : Nat)) ∧ w = w' := by
  have HG := Lib.hid hg
  clear hg
  go_enter Tryd.func100, Tryd.ntmps100
  go_wp2
  go_loop [3, 4] (fun g i => ∃ k : Nat, k ≤ zs.length ∧ i = .int .i64 k ∧ g = .int .i64 (bitsTo zs k : Nat))
    (fun _ i => zs.length - (intOf i).toNat)
  case atStart => exact ⟨0, Nat.zero_le _, rfl, rfl⟩
  case round =>
    obtain ⟨k, hk, rfl, rfl⟩ := hrel
    by_cases hlt : k < zs.length
    · rcases h with h | ⟨b, o, rfl, hc⟩
      · rw [h] at hlt; exact absurd hlt (Nat.not_lt_zero _)
      have hcell := hc k hlt
      have hb := HG.out k hlt
      have hz0 : 0 ≤ nth zs k := hb.1
      have hz1 : nth zs k ≤ 6 := by have := hb.2.1; omega
      clear hc hb
      go_wp2
      go_round
      case rel => exact ⟨k + 1, by omega, by go_num, by rw [bits_step (bitsTo_lt HG.out hn k (by omega)) (by omega)]; rfl⟩
      case measure => simp [intOf]; omega
    · go_wp2
      go_ret
      exact ⟨by rw [show k = zs.length by omega]; rfl, rfl⟩

noncomputable def raV (h l : Int) (z g : List Int) : Int := if tell (RkOk h l z ∧ IsGrp h g) = true then nth z (bitsOf g) else 0
noncomputable def raC (h l : Int) (z g : List Int) : Int := if tell (RkOk h l z) = true then (if tell (IsGrp h g) = true then 0 else 2) else 1
theorem ra_bad {h l : Int} {z g : List Int} (k : ¬ RkOk h l z) : raV h l z g = 0 ∧ raC h l z g = 1 := by
  constructor
  · rw [raV, if_neg]; rw [tell_false (fun q => k q.1)]; simp
  · rw [raC, if_neg]; rw [tell_false k]; simp
theorem ra_out {h l : Int} {z g : List Int} (k : RkOk h l z) (q : ¬ IsGrp h g) : raV h l z g = 0 ∧ raC h l z g = 2 := by
  constructor
  · rw [raV, if_neg]; rw [tell_false (fun f => q f.2)]; simp
  · rw [raC, if_pos (tell_true k), if_neg]; rw [tell_false q]; simp
theorem ra_in {h l : Int} {z g : List Int} (k : RkOk h l z) (q : IsGrp h g) : raV h l z g = nth z (bitsOf g) ∧ raC h l z g = 0 :=
  ⟨by rw [raV, if_pos (tell_true ⟨k, q⟩)], by rw [raC, if_pos (tell_true k), if_pos (tell_true q)]⟩
theorem RkOk.len {m : Nat} {l : Int} {z : List Int} (h : RkOk (m : Int) l z) : z.length = 2 ^ m := by have := h.1.2.2; simpa using this

end Go.Proofs.YthmjcmhaijiedaaDoor

namespace Go.Proofs.YthmjcmhaijiedaaDoor
open Go.RowKit Go.Deep Go.Shelf
set_option linter.unusedVariables false

/-- One of the first groups is within x. -/
def tblAt (zss : List (List Int)) (k x : Nat) : Bool := anyIn (bitsUpTo zss k) x
theorem tblAt_zero (zss : List (List Int)) (x : Nat) : tblAt zss 0 x = false := by simp [tblAt, anyIn, bitsUpTo]
theorem tblAt_succ (zss : List (List Int)) (k x : Nat) : tblAt zss (k + 1) x = (tblAt zss k x || (bitsOf (nthL zss k) &&& x == bitsOf (nthL zss k))) := by
  simp [tblAt, anyIn, bitsUpTo, List.range_succ]
theorem tblAt_more {zss : List (List Int)} {k x : Nat} (h : tblAt zss k x = true) : ∀ n, tblAt zss (k + n) x = true
  | 0 => h
  | n + 1 => by rw [← Nat.add_assoc, tblAt_succ, tblAt_more h n]; rfl

end Go.Proofs.YthmjcmhaijiedaaDoor

namespace Go.Proofs.YthmjcmhaijiedaaDoor
open Go.RowKit Go.Deep Go.Shelf
set_option linter.unusedVariables false
attribute [local go_sem] Oper.semAt_some

end Go.Proofs.YthmjcmhaijiedaaDoor

namespace Go.Proofs.YthmjcmhaijiedaaDoor
open Go.RowKit Go.Deep Go.Shelf
set_option linter.unusedVariables false

/-- All others of so many. -/
def offIn (m x : Nat) : Nat := (2 ^ m - 1) &&& (127 - x)
theorem off_fact : ∀ m : Nat, m ≤ 7 → ∀ x : Nat, x < 128 → bits BinOp.andNot IntKind.u64 ((2 ^ m - 1 : Nat) : Int) (x : Int) = (offIn m x : Nat) := by decide +kernel
theorem off_sub : ∀ m : Nat, m ≤ 7 → ∀ x : Nat, x < 128 → x < 2 ^ m → offIn m x = 2 ^ m - 1 - x := by decide +kernel
theorem off_lt {m : Nat} (x : Nat) (hm : m ≤ 7) : offIn m x < 128 := by
  have : (2 : Nat) ^ m ≤ 2 ^ 7 := Nat.pow_le_pow_right (by decide) hm
  have h1 : (2 : Nat) ^ m - 1 < 128 := by omega
  exact Nat.lt_of_le_of_lt Nat.and_le_left h1
theorem mask_all : ∀ n : Nat, n ≤ 7 → IntKind.u64.wrap (IntKind.u64.wrap ((2 : Int) ^ n) - 1) = ((2 ^ n - 1 : Nat) : Int) := by decide +kernel
set_option maxRecDepth 100000 in
theorem allH_any (h M : Nat) (w : World) (h2 : h ≤ 7) (hM : 2 ^ h - 1 = M) : Calls Tryd.prog 61 #[.int .i64 (h : Nat)] w fun e w' => e = .returned (.int .u64 (M : Int)) ∧ w = w' := by
  have hm := Lib.hid (mask_all h h2)
  have HM := Lib.hid hM
  clear hM
  go_enter Tryd.func61, Tryd.ntmps61
  go_wp2
  go_ret
  refine ⟨?_, rfl⟩
  rw [← HM.out, ← hm.out]
  rfl

/-- The groups that the dual opens. -/
def dualB (m : Nat) (zss : List (List Int)) (x : Nat) : Bool := !tblAt zss zss.length (2 ^ m - 1 - x)
noncomputable def dualOf (h : Int) (zss : List (List Int)) : FR := if tell (FamOk h zss) = true then ⟨h, famOf h.toNat (dualB h.toNat zss), 0⟩ else noFam 1
theorem dualOf_yes {m : Nat} {zss : List (List Int)} (k : FamOk (m : Int) zss) : dualOf (m : Int) zss = ⟨(m : Nat), famOf m (dualB m zss), 0⟩ := by rw [dualOf, if_pos (tell_true k), Int.toNat_natCast]
theorem dualOf_no {h : Int} {zss : List (List Int)} (k : ¬ FamOk h zss) : dualOf h zss = noFam 1 := by rw [dualOf, if_neg (by rw [tell_false k]; simp)]

end Go.Proofs.YthmjcmhaijiedaaDoor

namespace Go.Proofs.YthmjcmhaijiedaaDoor
open Go.RowKit Go.Deep
set_option linter.unusedVariables false

set_option maxRecDepth 100000 in
theorem specValid_any (h : Int) (a : Option Addr) (zss : List (List Int)) (c : Nat) (w : World) (hr : Rows2 w a zss) (hl : Lens zss) :
    Calls Tryd.prog 137 #[.agg #[.int .i64 h, .slice a zss.length c]] w fun e w' => e = .returned (.bool (tell (FamOk h zss))) ∧ Below w.heap.size w w' := by
  go_enter Tryd.func137, Tryd.ntmps137
  go_wp2_with fail
  have hb1 := (Below.refl w.heap.size w).alloc (Nat.le_refl _) (.cells #[.int .i64 h, .slice a zss.length c] 34)
  have hbox : FamBox (w.alloc (.cells #[.int .i64 h, .slice a zss.length c] 34)) w.heap.size h a zss.length c := ⟨by simp, by simp⟩
  refine (l01Ok_any w.heap.size h a zss c _ hbox (hr.below hb1 (Nat.le_refl _)) hl).mono ?_
  rintro e w' ⟨rfl, hq⟩
  have hb3 := hb1.trans ((quiet_below hq).mono (by simp))
  clear hb1 hq hbox
  go_wp2_with fail
  go_ret
  exact ⟨rfl, hb3⟩
end Go.Proofs.YthmjcmhaijiedaaDoor

namespace Go.Proofs.YthmjcmhaijiedaaDoor
open Go.RowKit Go.Deep
set_option linter.unusedVariables false

theorem run_boolPut1 {P : Program} (w : World) (mty kt et : TypeId) (r clock : Nat) (b : Bool) (val : Value) (hm : P.underlying mty = some (.map kt et)) (hk : P.underlying kt = some .bool) (hb : w.heap[r]? = some (.map #[] clock)) :
    (Instr.mapUpdate mty (.map (some r)) (.bool b) val).run P w = .ok () { w with heap := w.heap.setIfInBounds r (.map #[{ key := .bool b, val := val, born := clock }] (clock + 1)) } := by
  have hf : Instr.findNow .bool (.bool b) ([] : List MapEntry) 0 = some none := rfl
  have hc : (Instr.checkKey false 10000 kt (.bool b)).run P w = .ok () w := MapKept.run_checkKey (k := .bool b) hk (by simp [MapKept.IsKey]) false 9999
  simp [Instr.mapUpdate, run_underlying hm, MapKept.run_getObj_map hb, hc, MapKept.run_findKey hk hf, MapKept.run_setObj_map _ hb, Result.andThen]
theorem run_boolPut2 {P : Program} (w : World) (mty kt et : TypeId) (r clock born : Nat) (v val : Value) (hm : P.underlying mty = some (.map kt et)) (hk : P.underlying kt = some .bool) (hb : w.heap[r]? = some (.map #[{ key := .bool false, val := v, born := born }] clock)) :
    (Instr.mapUpdate mty (.map (some r)) (.bool true) val).run P w = .ok () { w with heap := w.heap.setIfInBounds r (.map #[{ key := .bool false, val := v, born := born }, { key := .bool true, val := val, born := clock }] (clock + 1)) } := by
  have hf : Instr.findNow .bool (.bool true) ([{ key := .bool false, val := v, born := born }] : List MapEntry) 0 = some none := rfl
  have hc : (Instr.checkKey false 10000 kt (.bool true)).run P w = .ok () w := MapKept.run_checkKey (k := .bool true) hk (by simp [MapKept.IsKey]) false 9999
  simp [Instr.mapUpdate, run_underlying hm, MapKept.run_getObj_map hb, hc, MapKept.run_findKey hk hf, MapKept.run_setObj_map _ hb, Result.andThen]
theorem run_boolGet {P : Program} (w : World) (mty kt et : TypeId) (r clock b1 b2 : Nat) (v val : Value) (hm : P.underlying mty = some (.map kt et)) (hk : P.underlying kt = some .bool) (hb : w.heap[r]? = some (.map #[{ key := .bool false, val := v, born := b1 }, { key := .bool true, val := val, born := b2 }] clock)) :
    (Instr.lookup mty (.map (some r)) (.bool true) false).run P w = .ok val w := by
  have hf : Instr.findNow .bool (.bool true) ([{ key := .bool false, val := v, born := b1 }, { key := .bool true, val := val, born := b2 }] : List MapEntry) 0 = some (some (1, val)) := rfl
  have hc : (Instr.checkKey false 10000 kt (.bool true)).run P w = .ok () w := MapKept.run_checkKey (k := .bool true) hk (by simp [MapKept.IsKey]) false 9999
  simp [Instr.lookup, run_underlying hm, MapKept.run_getObj_map hb, hc, MapKept.run_findKey hk hf, Result.andThen]

theorem arr32_set (z : List Int) (i : Nat) (v : Int) (hi : i < z.length) (hz : z.length ≤ 32) : (arr32 z).setIfInBounds i (.int .i64 v) = arr32 (z.set i v) := by
  apply Array.ext_getElem?
  intro j
  rw [Array.getElem?_setIfInBounds]
  by_cases hj : j < 32
  · rw [arr32_get z hj, arr32_get (z.set i v) hj]
    by_cases e : i = j
    · subst e
      rw [if_pos rfl, if_pos (by rw [arr32_size]; omega)]
      simp [nth, List.getD, hi]
    · rw [if_neg e]
      simp [nth, List.getD, List.getElem?_set_ne e]
  · have h1 : (arr32 z)[j]? = none := Array.getElem?_eq_none (by rw [arr32_size]; omega)
    have h2 : (arr32 (z.set i v))[j]? = none := Array.getElem?_eq_none (by rw [arr32_size]; omega)
    rw [h1, h2]
    by_cases e : i = j
    · subst e; omega
    · rw [if_neg e]
theorem Boxes.arr_set {W : World} {B : Nat} {t : TypeId} {z : List Int} (h : Boxes W B t (arr32 z)) (i : Nat) (v : Int) (hi : i < z.length) (hz : z.length ≤ 32) : Boxes (W.setCell ⟨B, i, none⟩ (.int .i64 v)) B t (arr32 (z.set i v)) := by
  rw [← arr32_set z i v hi hz]
  unfold Boxes at h ⊢
  simp [World.setCell, Array.getElem?_modify, h]

/-- Ranks together with the secret. -/
def togZ (z : List Int) (u : Int) (p : Nat → Bool) (n : Nat) : List Int := (List.range n).map fun g => nth z g + if p g = true then 0 else u
theorem togZ_len (z : List Int) (u : Int) (p : Nat → Bool) (n : Nat) : (togZ z u p n).length = n := by simp [togZ]
theorem togZ_nth (z : List Int) (u : Int) (p : Nat → Bool) {n i : Nat} (h : i < n) : nth (togZ z u p n) i = nth z i + if p i = true then 0 else u := by
  rw [nth_lt (by rw [togZ_len]; exact h)]; simp [togZ]
/-- What shows that ranks do not fit. -/
def MisAt (z : List Int) (u : Int) (p : Nat → Bool) (a b : Nat) : Prop := ((a &&& b = a ∧ p a = false ∧ p b = true) ∧ nth z b - nth z a < u) ∨ ((p a = true ∧ p b = true ∧ p (a &&& b) = false) ∧ nth z a + nth z b - nth z (a ||| b) - nth z (a &&& b) < u)
theorem and_sub : ∀ a : Nat, a < 32 → ∀ b : Nat, b < 32 → (a &&& b) &&& a = a &&& b ∧ (a &&& b) &&& b = a &&& b ∧ a &&& (a ||| b) = a ∧ b &&& (a ||| b) = b := by decide +kernel
theorem mis_iff {m : Nat} {u : Int} {z : List Int} {p : Nat → Bool} (k : RkOk (m : Int) u z) (hp : ∀ x, x < 2 ^ m → ∀ y, y < 2 ^ m → y &&& x = y → p y = true → p x = true) {a b : Nat} (ha : a < 2 ^ m) (hb : b < 2 ^ m) : BadAt (togZ z u p (2 ^ m)) a b ↔ MisAt z u p a b := by
  have h32 : (2 : Nat) ^ m ≤ 32 := pow5 (by have := k.1.1.2; omega)
  have hor : a ||| b < 2 ^ m := Nat.or_lt_two_pow ha hb
  have han : a &&& b < 2 ^ m := Nat.lt_of_le_of_lt Nat.and_le_left ha
  have hl : z.length = 2 ^ m := by have := k.1.2.2; simpa using this
  have hu := k.1.2.1
  obtain ⟨s1, s2, s3, s4⟩ := and_sub a (by omega) b (by omega)
  have hM := k.2.2.2 a (by omega) b (by omega)
  have q1 := hp a ha (a &&& b) han s1
  have q2 := hp b hb (a &&& b) han s2
  have q3 := hp (a ||| b) hor a ha s3
  have q4 := hp (a ||| b) hor b hb s4
  have q5 : a &&& b = a → p a = true → p b = true := fun e f => hp b hb a ha e f
  have q6 : a &&& b = a → nth z a ≤ nth z b := hM.1
  have hM2 := hM.2
  unfold BadAt MisAt
  rw [togZ_nth z u p ha, togZ_nth z u p hb, togZ_nth z u p hor, togZ_nth z u p han]
  cases ea : p a <;> cases eb : p b <;> cases eo : p (a ||| b) <;> cases en : p (a &&& b) <;> simp_all <;> omega
end Go.Proofs.YthmjcmhaijiedaaDoor

namespace Go.Proofs.YthmjcmhaijiedaaDoor
open Go.RowKit Go.Deep Go.Shelf
set_option linter.unusedVariables false

theorem alloc_b (w : World) (o : Obj) : Below w.heap.size w (w.alloc o) := (Below.refl _ _).alloc (Nat.le_refl _) o
/-- A whole array into the block that was made last, as the walk over a list of operations meets it. -/
theorem wpList_store_new {P : Program} {ops : Array Oper} {rest : List Oper} {o : Oper} {a : Act} {w0 : World} {old : Array Value} {Q : Exit → Act → World → Prop} (hgd : o.guard = none) (ty : TypeId) (x y : Operand) (ho : o.op = .store ty x y)
    (cells : Array Value) (hx : a.eval x = .pointer (some ⟨w0.heap.size, 0, none⟩)) (hy : a.eval y = .agg cells) (hi : (P.info? ty).map (·.size) = some cells.size) (hold : old.size = cells.size) (h1 : cells.all (·.oneCell') = true)
    (h : wpList P ops Q rest (a.put o.dst undef) (w0.alloc (.cells cells ty))) : wpList P ops Q (o :: rest) a (w0.alloc (.cells old ty)) := by
  refine wpList_store_row hgd ty x y ho w0.heap.size cells hx hy ty old (World.alloc_heap_new w0 _) hi hold h1 ?_
  rw [World.setRow_alloc_new]
  exact h

def togTo (z : List Int) (u : Int) (p : Nat → Bool) (n k : Nat) : List Int := (List.range n).map fun g => nth z g + if g < k ∧ p g = false then u else 0
theorem togTo_len (z : List Int) (u : Int) (p : Nat → Bool) (n k : Nat) : (togTo z u p n k).length = n := by simp [togTo]
theorem togTo_zero (z : List Int) (u : Int) (p : Nat → Bool) {n : Nat} (h : z.length = n) : togTo z u p n 0 = z := by
  apply List.ext_getElem (by simp [togTo, h])
  intro i h1 h2
  simp [togTo, nth_lt h2]
theorem togTo_end (z : List Int) (u : Int) (p : Nat → Bool) (n : Nat) : togTo z u p n n = togZ z u p n := by
  apply List.ext_getElem (by simp [togTo, togZ])
  intro i h1 h2
  have hi : i < n := by simpa [togTo] using h1
  simp only [togTo, togZ, List.getElem_map, List.getElem_range]
  cases p i <;> simp [hi]
theorem togTo_nth (z : List Int) (u : Int) (p : Nat → Bool) {n k : Nat} (h : k < n) : nth (togTo z u p n k) k = nth z k := by
  rw [nth_lt (by rw [togTo_len]; exact h)]; simp [togTo]
theorem togTo_yes (z : List Int) (u : Int) (p : Nat → Bool) (n : Nat) {k : Nat} (h : p k = true) : togTo z u p n (k + 1) = togTo z u p n k := by
  apply List.ext_getElem (by simp [togTo])
  intro i h1 h2
  simp only [togTo, List.getElem_map, List.getElem_range]
  by_cases e : i = k
  · subst e; simp [h]
  · have : (i < k + 1 ∧ p i = false) ↔ (i < k ∧ p i = false) := ⟨fun f => ⟨by omega, f.2⟩, fun f => ⟨by omega, f.2⟩⟩
    simp only [this]
theorem togTo_no (z : List Int) (u : Int) (p : Nat → Bool) {n k : Nat} (hk : k < n) (h : p k = false) : togTo z u p n (k + 1) = (togTo z u p n k).set k (nth z k + u) := by
  apply List.ext_getElem (by simp [togTo])
  intro i h1 h2
  rw [List.getElem_set]
  by_cases e : k = i
  · subst e
    simp [togTo, h]
  · rw [if_neg e]
    simp only [togTo, List.getElem_map, List.getElem_range]
    have : (i < k + 1 ∧ p i = false) ↔ (i < k ∧ p i = false) := ⟨fun f => ⟨by omega, f.2⟩, fun f => ⟨by omega, f.2⟩⟩
    simp only [this]

/-- Ranks alone and with the secret, as a map. -/
def SecMap (W : World) (r : Nat) (z y : List Int) : Prop := ∃ clock b1 b2, W.heap[r]? = some (.map #[{ key := .bool false, val := .agg (arr32 z), born := b1 }, { key := .bool true, val := .agg (arr32 y), born := b2 }] clock)
theorem SecMap.step {W W' : World} {r : Nat} {z y : List Int} (h : SecMap W r z y) (hb : Below W.heap.size W W') : SecMap W' r z y := by
  obtain ⟨c, b1, b2, e⟩ := h
  exact ⟨c, b1, b2, (hb.block r (Array.getElem?_eq_some_iff.1 e).1).trans e⟩
theorem secUnder : Tryd.prog.underlying 88 = some (.map 4 103) := by kernel_rfl
theorem arr32_oneX (z : List Int) : (arr32 z).all (·.oneCell') = true := by simp [arr32, Value.oneCell']
theorem arrSize (z : List Int) : (Tryd.prog.info? 103).map (·.size) = some (arr32 z).size := by rw [arr32_size]; exact rkSize

set_option maxHeartbeats 4000000 in
set_option maxRecDepth 100000 in
theorem withSecret_any (m n T : Nat) (u : Int) (a : Option Addr) (z : List Int) (c : Nat) (q : Nat → Bool) (w : World) (hr : Ints w a z) (hm : m ≤ 5) (hn : 2 ^ m = n) (hz : z.length = n) (hs : SmallK z) (hu : 0 ≤ u ∧ u ≤ 100000) (ht : TableAt w T m q) :
    Calls Tryd.prog 103 #[.agg #[.int .i64 (m : Nat), .int .i64 u, .slice a z.length c], .pointer (some ⟨T, 0, none⟩)] w fun e w' => (∃ r, e = .returned (.map (some r)) ∧ SecMap w' r z (togZ z u q n)) ∧ Below w.heap.size w w' := by
  have hn32 : n ≤ 32 := by rw [← hn]; exact pow5 hm
  have hx := boxes_new w #[.int .i64 (m : Nat), .int .i64 u, .slice a z.length c] 32
  have hb1 := alloc_b w (.cells #[.int .i64 (m : Nat), .int .i64 u, .slice a z.length c] 32)
  have HR := Lib.hid (hr.step hb1)
  have HT := Lib.hid (ht.below hb1 (World.block_lt_of_cell? _ _ ht.h0))
  have HTL := Lib.hid (World.block_lt_of_cell? _ _ ht.h0)
  have HX := Lib.hid hx
  have HB1 := Lib.hid hb1
  have HRL := Lib.hid (fun W (k : Ints W a z) => rankListOf_any (m : Int) u a z c W k (by rw [hz]; exact hn32))
  have HSZ := Lib.hid (arrSize z)
  have HONE := Lib.hid (arr32_oneX z)
  have HS32 := Lib.hid (show (32 : Nat) = (arr32 z).size from (arr32_size z).symm)
  have c0 := hx.m0
  have c1 := hx.m1
  have c2 := hx.m2
  have HZL := Lib.hid hz
  have HN := Lib.hid hn
  clear hr ht hx hb1 hz hn
  obtain ⟨R, hRe⟩ : ∃ R, arr32 z = R := ⟨_, rfl⟩
  have HRE := Lib.hid hRe
  rw [hRe] at HRL HSZ HONE HS32
  clear hRe
  go_enter Tryd.func103, Tryd.ntmps103
  go_wp2_with fail
  generalize w.alloc (.cells #[.int .i64 (m : Nat), .int .i64 u, .slice a z.length c] 32) = w1 at *
  refine (HRL.out w1 HR.out).mono ?_
  rintro e w2 ⟨rfl, hb⟩
  have HX2 := Lib.hid (HX.out.step hb)
  have HT2 := Lib.hid (HT.out.below hb (Nat.lt_of_lt_of_le HTL.out HB1.out.size))
  have HB2 := Lib.hid (chain HB1.out hb)
  have HTL2 := Lib.hid (Nat.lt_of_lt_of_le HTL.out HB2.out.size)
  have d0 := HX2.out.m0
  have d1 := HX2.out.m1
  have hlx := HX2.out.lt
  clear c0 c1 c2 hb
  go_wp2_with (first
    | (refine wpList_store_new rfl 103 (.tmp 5) (.tmp 9) rfl R rfl rfl HSZ.out (by rw [← HS32.out]; rfl) HONE.out ?_)
    | (refine wpList_load_arr 103 (.tmp 5) rfl w2.heap.size rfl (by rfl) R 32 2 (World.alloc_heap_new w2 _) rkUnder HSZ.out ?_)
    | (refine wpList_store_new rfl 103 (.tmp 6) (.tmp 10) rfl R (by simp [Act.eval]) rfl HSZ.out (by rw [← HS32.out]; rfl) HONE.out ?_))
  refine (countGroups_any m n _ hm HN.out).mono ?_
  rintro e w3' ⟨rfl, rfl⟩
  have hb5 := alloc_b w2 (.cells R 103)
  have hb6 := alloc_b (w2.alloc (.cells R 103)) (.cells R 103)
  have hx5 := (boxes_new w2 R 103).step hb6
  have hx6 := boxes_new (w2.alloc (.cells R 103)) R 103
  rw [World.size_alloc] at hx6
  have HT3 := Lib.hid ((HT2.out.below hb5 HTL2.out).below hb6 (Nat.lt_of_lt_of_le HTL2.out hb5.size))
  have HX3 := Lib.hid ((HX2.out.step hb5).step hb6)
  have HB3 := Lib.hid (chain (chain HB2.out hb5) hb6)
  generalize (w2.alloc (.cells R 103)).alloc (.cells R 103) = w3 at *
  have HX5 := Lib.hid hx5
  have HX6 := Lib.hid (show Boxes w3 (w2.heap.size + 1) 103 (arr32 (togTo z u q n 0)) by rw [togTo_zero z u q HZL.out, HRE.out]; exact hx6)
  clear hb5 hb6 hx5 hx6 d0 d1
  have hlx3 := HX3.out.lt
  go_wp2_with fail
  go_loopw [14] (fun i wr => ∃ k : Nat, i = .int .u64 k ∧ k ≤ n ∧ Boxes wr (w2.heap.size + 1) 103 (arr32 (togTo z u q n k)) ∧ Below (w2.heap.size + 1) w3 wr)
    (fun i _ => n - (intOf i).toNat)
  case atStart => exact ⟨0, rfl, Nat.zero_le _, HX6.out, Below.refl _ _⟩
  case round =>
    obtain ⟨k, rfl, hk, hbx, hbl⟩ := hrel
    have HBX := Lib.hid hbx
    have HBL := Lib.hid hbl
    have hlbx := hbx.lt
    have hTw : T < w2.heap.size + 1 := by have := HTL2.out; omega
    have HTr := Lib.hid (HT3.out.below hbl hTw)
    have d1 : wr.cell? ⟨w.heap.size, 1, none⟩ = some (.int .i64 u) := (hbl.cell (p := ⟨w.heap.size, 1, none⟩) (by show w.heap.size < w2.heap.size + 1; omega)).trans HX3.out.m1
    have hlw : w.heap.size < wr.heap.size := by omega
    clear hbx hbl
    by_cases hlt : k < n
    · have hi0 : (k : Int) < (n : Int) := by omega
      have hk32 : (k : Int) < 32 := by omega
      go_wp2_with fail
      refine (opens_any T m k q wr (by omega) HTr.out).mono ?_
      rintro e wr' ⟨rfl, rfl⟩
      cases hq : q k with
      | true =>
        have HTY := Lib.hid (togTo_yes z u q n hq)
        clear hq
        go_wp2_with fail
        go_roundw
        case rel => exact ⟨k + 1, by go_num, by omega, by rw [HTY.out]; exact HBX.out, HBL.out⟩
        case measure => simp [intOf]; omega
      | false =>
        have HTN := Lib.hid (togTo_no z u q hlt hq)
        have g1 := HBX.out.arr (i := k) (by omega)
        rw [togTo_nth z u q hlt] at g1
        have hf := HBX.out.frozen k
        have hv := hs k (by rw [HZL.out]; exact hlt)
        have HST := Lib.hid (HBX.out.arr_set k (nth z k + u) (by rw [togTo_len]; exact hlt) (by rw [togTo_len]; exact hn32))
        generalize nth z k = x at *
        have hwr : IntKind.i64.wrap (x + u) = x + u := IntWalk.i64_in _ (by omega)
        clear hq
        go_wp2_with fail
        go_region_law (fail)
        all_goals (
          go_wp2_with fail
          go_roundw
          case rel => exact ⟨k + 1, by go_num, by omega, by rw [HTN.out]; exact HST.out.step (drew_step _), (HBL.out.drew).setCell (p := ⟨w2.heap.size + 1, k, none⟩) (Nat.le_refl _) _⟩
          case measure => simp [intOf]; omega)
    · have HK := Lib.hid (show k = n by omega)
      have h6 := HBX.out
      rw [HK.out, togTo_end] at h6
      obtain ⟨R6, hR6⟩ : ∃ R6, arr32 (togZ z u q n) = R6 := ⟨_, rfl⟩
      have HR6 := Lib.hid hR6
      have HSZ6 := Lib.hid (arrSize (togZ z u q n))
      rw [hR6] at h6 HSZ6
      have h5 : wr.heap[w2.heap.size]? = some (.cells R 103) := (HBL.out.block w2.heap.size (Nat.lt_succ_self _)).trans HX5.out
      have l5 : w2.heap.size < wr.heap.size := by omega
      have l6 : w2.heap.size + 1 < wr.heap.size := hlbx
      have hmk := run_makeMap_plain (P := Tryd.prog) wr 88
      have hn0 : (wr.alloc (.map #[] 0)).heap[wr.heap.size]? = some (.map #[] 0) := World.alloc_heap_new wr _
      have hb0 := alloc_b wr (.map #[] 0)
      have g5 := (hb0.block w2.heap.size l5).trans h5
      have g6 := (hb0.block (w2.heap.size + 1) l6).trans h6
      have hm1 : (Instr.mapUpdate 88 (.map (some wr.heap.size)) (.bool false) (.agg R)).run Tryd.prog (wr.alloc (.map #[] 0)) = .ok () (putMap (wr.alloc (.map #[] 0)) wr.heap.size (.map #[{ key := .bool false, val := .agg R, born := 0 }] 1)) := run_boolPut1 (wr.alloc (.map #[] 0)) 88 4 103 wr.heap.size 0 false (.agg R) secUnder Tryd.underlying4 hn0
      have hs0 : (wr.alloc (.map #[] 0)).heap.size = wr.heap.size + 1 := World.size_alloc ..
      have hp1 := putMap_below (wr.alloc (.map #[] 0)) wr.heap.size (.map #[{ key := .bool false, val := .agg R, born := 0 }] 1)
      have hn1 := putMap_at (W := wr.alloc (.map #[] 0)) (r := wr.heap.size) (.map #[{ key := .bool false, val := .agg R, born := 0 }] 1) (by omega)
      have k5 := (hp1.block w2.heap.size l5).trans g5
      have k6 := (hp1.block (w2.heap.size + 1) l6).trans g6
      have HPB := Lib.hid ((hb0.trans hp1))
      have H5 := Lib.hid h5
      have H6 := Lib.hid h6
      have G5 := Lib.hid g5
      have G6 := Lib.hid g6
      have K5 := Lib.hid k5
      have K6 := Lib.hid k6
      clear h5 h6 g5 g6 k5 k6 hb0 hn0 hs0 hp1 hR6
      generalize hWW : putMap (wr.alloc (.map #[] 0)) wr.heap.size (.map #[{ key := .bool false, val := .agg R, born := 0 }] 1) = W5 at *
      have hs5 : wr.heap.size < W5.heap.size := (Array.getElem?_eq_some_iff.1 hn1).1
      have hm2 : (Instr.mapUpdate 88 (.map (some wr.heap.size)) (.bool true) (.agg R6)).run Tryd.prog W5 = .ok () (putMap W5 wr.heap.size (.map #[{ key := .bool false, val := .agg R, born := 0 }, { key := .bool true, val := .agg R6, born := 1 }] 2)) := run_boolPut2 W5 88 4 103 wr.heap.size 1 0 (.agg R) (.agg R6) secUnder Tryd.underlying4 hn1
      have HW5 := Lib.hid hWW
      have hn2 := putMap_at (W := W5) (r := wr.heap.size) (.map #[{ key := .bool false, val := .agg R, born := 0 }, { key := .bool true, val := .agg R6, born := 1 }] 2) hs5
      have HN2 := Lib.hid hn2
      have HB5 := Lib.hid (HPB.out.trans (putMap_below W5 wr.heap.size (.map #[{ key := .bool false, val := .agg R, born := 0 }, { key := .bool true, val := .agg R6, born := 1 }] 2)))
      have HBW := Lib.hid (chain (HB3.out.trans (HBL.out.mono (show w.heap.size ≤ w2.heap.size + 1 by have := HB2.out.size; omega))) HB5.out)
      clear hWW hn1 hn2 HB5
      generalize hWX : putMap W5 wr.heap.size (.map #[{ key := .bool false, val := .agg R, born := 0 }, { key := .bool true, val := .agg R6, born := 1 }] 2) = W6 at *
      clear hWX
      go_wp2_with (first
        | (refine wpList_load_arr 103 (.tmp 5) rfl w2.heap.size (by first | rfl | simp [Act.eval]) (by rfl) R 32 2 (by first | exact G5.out | exact H5.out | exact K5.out) rkUnder HSZ.out ?_)
        | (refine wpList_load_arr 103 (.tmp 6) rfl (w2.heap.size + 1) (by first | rfl | simp [Act.eval]) (by rfl) R6 32 2 (by first | exact K6.out | exact G6.out | exact H6.out) rkUnder HSZ6.out ?_))
      go_ret
      exact ⟨⟨wr.heap.size, rfl, 2, 0, 1, by rw [HN2.out, ← HRE.out, ← HR6.out]⟩, HBW.out⟩
end Go.Proofs.YthmjcmhaijiedaaDoor

namespace Go.Proofs.YthmjcmhaijiedaaDoor
open Go.RowKit Go.Deep Go.Shelf
set_option linter.unusedVariables false

set_option maxRecDepth 100000 in
theorem secMisfit_any (r m n : Nat) (z y : List Int) (w : World) (hm : m ≤ 5) (hn : 2 ^ m = n) (hs : SecMap w r z y) (hy : Mild y) :
    Calls Tryd.prog 56 #[.map (some r), .int .i64 (m : Nat)] w fun e w' => e = .returned (.tuple #[.int .u64 (fltA y n : Nat), .int .u64 (fltB y n : Nat), .bool (fltO y n)]) ∧ Below w.heap.size w w' := by
  obtain ⟨cl, b1, b2, hr⟩ := hs
  have hg := run_boolGet w 88 4 103 r cl b1 b2 (.agg (arr32 z)) (.agg (arr32 y)) secUnder Tryd.underlying4 hr
  have HV := Lib.hid (firstFault_val y m n w hm hn hy)
  generalize arr32 z = R at *
  generalize arr32 y = T at *
  clear hr
  go_enter Tryd.func56, Tryd.ntmps56
  go_wp2_with fail
  refine HV.out.mono ?_
  rintro e w2 ⟨rfl, hb⟩
  have HB := Lib.hid hb
  clear hb hg
  go_wp2_with fail
  refine bodyPost_ret (v := .tuple #[.int .u64 (fltA y n : Nat), .int .u64 (fltB y n : Nat), .bool (fltO y n)]) (by simp [results, Tryd.results56, go_sem]) rfl ⟨rfl, HB.out⟩

theorem tabOf_tbl {m : Nat} (h7 : m ≤ 7) (zss : List (List Int)) {x : Nat} (hx : x < 2 ^ m) : tabOf (m : Int) zss x = tblAt zss zss.length x := by
  unfold tabOf
  rw [Int.toNat_natCast, seenBy_all h7 _ hx]
  rfl
theorem tbl_iff (zss : List (List Int)) (k x : Nat) : tblAt zss k x = true ↔ ∃ i, i < k ∧ bitsOf (nthL zss i) &&& x = bitsOf (nthL zss i) := by
  simp [tblAt, anyIn, bitsUpTo]
theorem grp_nil {n : Int} {l : List Int} (h : IsGrp n l) (hn : n ≤ 7) : bitsOf l = 0 ↔ l.length = 0 := by
  constructor
  · intro e
    have h1 := listOf_bitsOf h hn
    rw [e] at h1
    rw [← h1, (listOf_nil_fact 0 (by decide)).2 rfl]; rfl
  · intro e
    rw [List.eq_nil_of_length_eq_zero e]; rfl
theorem and_all {x m : Nat} (h : x < 2 ^ m) : x &&& (2 ^ m - 1) = x := by rw [Nat.and_two_pow_sub_one_eq_mod, Nat.mod_eq_of_lt h]
theorem state_iff {m : Nat} {zss : List (List Int)} (k : FamOk (m : Int) zss) : (tabOf (m : Int) zss 0 = true ∨ tabOf (m : Int) zss (2 ^ m - 1) = false) ↔ (zss.length = 0 ∨ (nthL zss 0).length = 0) := by
  have h7 : m ≤ 7 := by have := k.1.2; omega
  have hp : 1 ≤ 2 ^ m := Nat.one_le_two_pow
  rw [tabOf_tbl h7 zss (by omega : 0 < 2 ^ m), tabOf_tbl h7 zss (by omega : 2 ^ m - 1 < 2 ^ m)]
  have hg : ∀ i, i < zss.length → bitsOf (nthL zss i) &&& (2 ^ m - 1) = bitsOf (nthL zss i) := fun i hi => and_all (bitsOf_ltP (k.2.1 i hi).1)
  constructor
  · rintro (h | h)
    · obtain ⟨i, hi, he⟩ := (tbl_iff zss _ 0).1 h
      rw [Nat.and_zero] at he
      by_cases e0 : i = 0
      · subst e0
        exact .inr ((grp_nil (k.2.1 0 hi).1 (by omega)).1 he.symm)
      · exact absurd (show Part (nthL zss i) (nthL zss 0) by unfold Part; rw [← he]; simp) (k.2.2 i hi 0 (by omega) e0)
    · by_cases hz : zss.length = 0
      · exact .inl hz
      · have := (tbl_iff zss zss.length (2 ^ m - 1)).2 ⟨0, by omega, hg 0 (by omega)⟩
        rw [this] at h; exact absurd h (by decide)
  · rintro (h | h)
    · right
      cases hb : tblAt zss zss.length (2 ^ m - 1) with
      | false => rfl
      | true => obtain ⟨i, hi, -⟩ := (tbl_iff zss _ _).1 hb; omega
    · by_cases hz : zss.length = 0
      · right
        cases hb : tblAt zss zss.length (2 ^ m - 1) with
        | false => rfl
        | true => obtain ⟨i, hi, -⟩ := (tbl_iff zss _ _).1 hb; omega
      · left
        have h0 := (grp_nil (k.2.1 0 (by omega)).1 (by omega)).2 h
        exact (tbl_iff zss _ 0).2 ⟨0, by omega, by rw [h0]; rfl⟩

noncomputable def famC (h : Int) (zss : List (List Int)) : Int := if tell (FamOk h zss) = true then (if 5 < h then 3 else if zss.length = 0 ∨ (nthL zss 0).length = 0 then 4 else 0) else 1
noncomputable def bothC (h l : Int) (z : List Int) (h2 : Int) (zss : List (List Int)) : Int := if tell (RkOk h l z) = true then (if famC h2 zss = 0 then (if h = h2 then 0 else 2) else famC h2 zss) else 1
noncomputable def fitB (h l : Int) (z : List Int) (h2 : Int) (zss : List (List Int)) : Bool := if bothC h l z h2 zss = 0 then !fltO (togZ z l (tblAt zss zss.length) z.length) z.length else false
theorem famC_ok {h : Int} {zss : List (List Int)} (k : famC h zss = 0) : FamOk h zss := by
  unfold famC at k
  by_cases f : FamOk h zss
  · exact f
  · rw [if_neg (by rw [tell_false f]; simp)] at k; exact absurd k (by decide)
structure GivesRT (W : World) (h : Int) (zss : List (List Int)) (e : Ending) (w' : World) : Prop where
  yes : famC h zss = 0 → ∃ T, e = .returned (.tuple #[.pointer (some ⟨T, 0, none⟩), .int .i64 0]) ∧ TableAt w' T h.toNat (tabOf h zss)
  no : ¬ famC h zss = 0 → e = .returned (.tuple #[.pointer none, .int .i64 (famC h zss)])
  below : Below W.heap.size W w'
theorem opens0_any (T h : Nat) (q : Nat → Bool) (w : World) (ht : TableAt w T h q) : Calls Tryd.prog 141 #[.pointer (some ⟨T, 0, none⟩), .int .u64 0] w fun e w' => e = .returned (.bool (q 0)) ∧ w = w' := opens_any T h 0 q w (by decide) ht

set_option maxHeartbeats 1000000 in
set_option maxRecDepth 100000 in
theorem rankedTable_any (h : Int) (a : Option Addr) (zss : List (List Int)) (c : Nat) (w : World) (hr : Rows2 w a zss) (hs : Small2 zss) :
    Calls Tryd.prog 102 #[.agg #[.int .i64 h, .slice a zss.length c]] w (GivesRT w h zss) := by
  have hb1 := alloc_b w (.cells #[.int .i64 h, .slice a zss.length c] 34)
  have hx := boxes_new w #[.int .i64 h, .slice a zss.length c] 34
  have HX := Lib.hid hx
  have HA := Lib.hid (hr.step hb1)
  have HL := Lib.hid hs
  have HB := Lib.hid hb1
  have hlt := hx.lt
  clear hr hs hb1 hx
  by_cases hf : FamOk h zss
  case neg =>
    have HFO := Lib.hid hf
    have HV := Lib.hid (show famC h zss = 1 by rw [famC, if_neg (by rw [tell_false hf]; simp)])
    clear hf
    go_enter Tryd.func102, Tryd.ntmps102
    go_wp2_with fail
    generalize w.alloc (.cells #[.int .i64 h, .slice a zss.length c] 34) = w1 at *
    refine (tableOf_any h a zss c w1 HA.out HL.out).mono ?_
    rintro e w2 ⟨-, hn, hb⟩
    obtain rfl := hn HFO.out
    have HB2 := Lib.hid (chain HB.out hb)
    clear hn hb
    go_wp2_with fail
    refine bodyPost_ret (v := .tuple #[.pointer none, .int .i64 1]) (by simp [results, Tryd.results102, go_sem]) rfl ?_
    exact ⟨fun k => absurd (HV.out.symm.trans k) (by decide), fun _ => by rw [HV.out], HB2.out⟩
  have HFO := Lib.hid hf
  obtain ⟨m, rfl⟩ : ∃ m : Nat, h = (m : Int) := ⟨h.toNat, by have := hf.1.1; omega⟩
  have m1 : 1 ≤ m := by have := hf.1.1; omega
  have m7 : m ≤ 7 := by have := hf.1.2; omega
  have HT := Lib.hid (tell_true hf)
  have HST := Lib.hid (state_iff hf)
  clear hf
  by_cases h5 : 5 < m
  · have hi5 : (5 : Int) < (m : Int) := by omega
    have HV := Lib.hid (show famC (m : Int) zss = 3 by rw [famC, if_pos HT.out, if_pos hi5])
    go_enter Tryd.func102, Tryd.ntmps102
    go_wp2_with fail
    generalize w.alloc (.cells #[.int .i64 (m : Int), .slice a zss.length c] 34) = w1 at *
    refine (tableOf_any (m : Int) a zss c w1 HA.out HL.out).mono ?_
    rintro e w2 ⟨hy, -, hb⟩
    obtain ⟨T, rfl, hT, htab⟩ := hy HFO.out
    have HB2 := Lib.hid (chain HB.out hb)
    have e0 : w2.cell? ⟨w.heap.size, 0, none⟩ = some (.int .i64 (m : Int)) := by rw [(HX.out.step hb).cell]; rfl
    clear hy hb htab
    go_wp2_with fail
    refine bodyPost_ret (v := .tuple #[.pointer none, .int .i64 3]) (by simp [results, Tryd.results102, go_sem]) rfl ?_
    exact ⟨fun k => absurd (HV.out.symm.trans k) (by decide), fun _ => by rw [HV.out], HB2.out⟩
  have hi5 : ¬ (5 : Int) < (m : Int) := by omega
  obtain ⟨M, hM⟩ : ∃ M, 2 ^ m - 1 = M := ⟨_, rfl⟩
  have hM7 : M < 128 := by have : (2 : Nat) ^ m ≤ 2 ^ 7 := Nat.pow_le_pow_right (by decide) m7; omega
  have HM := Lib.hid hM
  rw [hM] at HST
  clear hM
  cases hq0 : tabOf (m : Int) zss 0 with
  | true =>
    have HQ0 := Lib.hid hq0
    have HV := Lib.hid (show famC (m : Int) zss = 4 by rw [famC, if_pos HT.out, if_neg hi5, if_pos (HST.out.1 (.inl hq0))])
    clear hq0
    go_enter Tryd.func102, Tryd.ntmps102
    go_wp2_with fail
    generalize w.alloc (.cells #[.int .i64 (m : Int), .slice a zss.length c] 34) = w1 at *
    refine (tableOf_any (m : Int) a zss c w1 HA.out HL.out).mono ?_
    rintro e w2 ⟨hy, -, hb⟩
    obtain ⟨T, rfl, hT, htab⟩ := hy HFO.out
    rw [Int.toNat_natCast] at htab
    have HTA := Lib.hid htab
    have HB2 := Lib.hid (chain HB.out hb)
    have e0 : w2.cell? ⟨w.heap.size, 0, none⟩ = some (.int .i64 (m : Int)) := by rw [(HX.out.step hb).cell]; rfl
    clear hy hb htab
    go_wp2_with fail
    refine (opens0_any T m _ w2 HTA.out).mono ?_
    rintro e w3 ⟨rfl, rfl⟩
    rw [HQ0.out]
    go_wp2_with fail
    refine bodyPost_ret (v := .tuple #[.pointer none, .int .i64 4]) (by simp [results, Tryd.results102, go_sem]) rfl ?_
    exact ⟨fun k => absurd (HV.out.symm.trans k) (by decide), fun _ => by rw [HV.out], HB2.out⟩
  | false =>
    have HQ0 := Lib.hid hq0
    cases hqM : tabOf (m : Int) zss M with
    | false =>
      have HQM := Lib.hid hqM
      have HV := Lib.hid (show famC (m : Int) zss = 4 by rw [famC, if_pos HT.out, if_neg hi5, if_pos (HST.out.1 (.inr hqM))])
      clear hq0 hqM
      go_enter Tryd.func102, Tryd.ntmps102
      go_wp2_with fail
      generalize w.alloc (.cells #[.int .i64 (m : Int), .slice a zss.length c] 34) = w1 at *
      refine (tableOf_any (m : Int) a zss c w1 HA.out HL.out).mono ?_
      rintro e w2 ⟨hy, -, hb⟩
      obtain ⟨T, rfl, hT, htab⟩ := hy HFO.out
      rw [Int.toNat_natCast] at htab
      have HTA := Lib.hid htab
      have HB2 := Lib.hid (chain HB.out hb)
      have e0 : w2.cell? ⟨w.heap.size, 0, none⟩ = some (.int .i64 (m : Int)) := by rw [(HX.out.step hb).cell]; rfl
      clear hy hb htab
      go_wp2_with fail
      refine (opens0_any T m _ w2 HTA.out).mono ?_
      rintro e w3 ⟨rfl, rfl⟩
      rw [HQ0.out]
      go_wp2_with fail
      refine (allH_any m M w2 m7 HM.out).mono ?_
      rintro e w3 ⟨rfl, rfl⟩
      go_wp2_with fail
      refine (opens_any T m M _ w2 hM7 HTA.out).mono ?_
      rintro e w3 ⟨rfl, rfl⟩
      rw [HQM.out]
      go_wp2_with fail
      refine bodyPost_ret (v := .tuple #[.pointer none, .int .i64 4]) (by simp [results, Tryd.results102, go_sem]) rfl ?_
      exact ⟨fun k => absurd (HV.out.symm.trans k) (by decide), fun _ => by rw [HV.out], HB2.out⟩
    | true =>
      have HQM := Lib.hid hqM
      have HV := Lib.hid (show famC (m : Int) zss = 0 by
        rw [famC, if_pos HT.out, if_neg hi5, if_neg]
        intro k
        rcases HST.out.2 k with f | f
        · rw [hq0] at f; exact absurd f (by decide)
        · rw [hqM] at f; exact absurd f (by decide))
      clear hq0 hqM
      go_enter Tryd.func102, Tryd.ntmps102
      go_wp2_with fail
      generalize w.alloc (.cells #[.int .i64 (m : Int), .slice a zss.length c] 34) = w1 at *
      refine (tableOf_any (m : Int) a zss c w1 HA.out HL.out).mono ?_
      rintro e w2 ⟨hy, -, hb⟩
      obtain ⟨T, rfl, hT, htab⟩ := hy HFO.out
      rw [Int.toNat_natCast] at htab
      have HTA := Lib.hid htab
      have HB2 := Lib.hid (chain HB.out hb)
      have e0 : w2.cell? ⟨w.heap.size, 0, none⟩ = some (.int .i64 (m : Int)) := by rw [(HX.out.step hb).cell]; rfl
      clear hy hb htab
      go_wp2_with fail
      refine (opens0_any T m _ w2 HTA.out).mono ?_
      rintro e w3 ⟨rfl, rfl⟩
      rw [HQ0.out]
      go_wp2_with fail
      refine (allH_any m M w2 m7 HM.out).mono ?_
      rintro e w3 ⟨rfl, rfl⟩
      go_wp2_with fail
      refine (opens_any T m M _ w2 hM7 HTA.out).mono ?_
      rintro e w3 ⟨rfl, rfl⟩
      rw [HQM.out]
      go_wp2_with fail
      refine bodyPost_ret (v := .tuple #[.pointer (some ⟨T, 0, none⟩), .int .i64 0]) (by simp [results, Tryd.results102, go_sem]) rfl ?_
      exact ⟨fun _ => ⟨T, rfl, by rw [Int.toNat_natCast]; exact HTA.out⟩, fun k => absurd HV.out k, HB2.out⟩
end Go.Proofs.YthmjcmhaijiedaaDoor

namespace Go.Proofs.YthmjcmhaijiedaaDoor
open Go.RowKit Go.Deep Go.Shelf
set_option linter.unusedVariables false

set_option maxHeartbeats 1000000 in
set_option maxRecDepth 100000 in
theorem l07Open_any (h n fb : Nat) (a : Option Addr) (zss : List (List Int)) (c : Nat) (w : World) (h1 : 1 ≤ h) (h7 : h ≤ 7) (hn : n = 2 ^ h) (hbox : FamBox w fb (h : Nat) a zss.length c) (hr : Rows2 w a zss) (hl : Lens zss)
    (hg : ∀ i, i < zss.length → IsGrp (h : Nat) (nthL zss i)) :
    Calls Tryd.prog 52 #[.pointer (some ⟨fb, 0, none⟩)] w fun e w' => (∃ g cap, e = .returned (.slice (some ⟨g, 0, none⟩) n cap) ∧ Bools w' (some ⟨g, 0, none⟩) n (tblAt zss zss.length)) ∧ Below w.heap.size w w' := by
  have hn128 : n ≤ 128 := by rw [hn]; exact Nat.pow_le_pow_right (by decide) h7
  have hpow : wrap64 ((2 : Int) ^ h) = (n : Int) := by rw [wrap64_two h7, hn]
  obtain ⟨i0, hi, hz0, hz1, hz2⟩ := info_parts Tryd.infoBool
  obtain ⟨p0, p1⟩ := hbox
  have hfb := World.block_lt_of_cell? _ _ p0
  have P0 := Lib.hid p0
  have P1 := Lib.hid p1
  have HG := Lib.hid hg
  have HL := Lib.hid hl.2
  have HA := Lib.hid hr
  have hll := hl.1
  clear hg hn hl hr
  go_enter Tryd.func52, Tryd.ntmps52
  go_wp2_with fail
  have hR0 : (w.alloc (.cells #[] 4)).ownsRow w.heap.size 4 1 (.slice (some ⟨w.heap.size, 0, none⟩) 0 0) 0 [] := by
    have := World.ownsRow_made w #[] 0 (e := 4) (size := 1) (Nat.le_refl _) (by unfold maxLen; omega) rfl
    simpa using this
  have hB3 := (Below.refl w.heap.size w).alloc (Nat.le_refl _) (.cells #[] 4)
  clear p0 p1
  generalize w.alloc (.cells #[] 4) = w3 at *
  go_loopw [3, 4] (fun v i wr => ∃ (k g cap : Nat), k ≤ n ∧ i = .int .i64 k ∧ v = .slice (some ⟨g, 0, none⟩) k cap ∧ wr.ownsRow w.heap.size 4 1 (.slice (some ⟨g, 0, none⟩) k cap) k (bools (tblAt zss zss.length) k) ∧ Below w.heap.size w wr)
    (fun _ i _ => n - (intOf i).toNat)
  case atStart => exact ⟨0, _, _, by omega, rfl, rfl, hR0, hB3⟩
  case round =>
    obtain ⟨k, g, cap, hk, rfl, rfl, hrow, hbel⟩ := hrel
    clear hR0 hB3
    have HR := Lib.hid hrow
    have HW := Lib.hid hbel
    have hszr := hbel.size
    have q0 := (hbel.cell (p := ⟨fb, 0, none⟩) hfb).trans P0.out
    have q1 := (hbel.cell (p := ⟨fb, 1, none⟩) hfb).trans P1.out
    clear hrow hbel
    by_cases hlt : k < n
    · have hki : (k : Int) < (n : Int) := by omega
      obtain ⟨wo, rfl⟩ : ∃ wo : World, wo = wr := ⟨_, rfl⟩
      go_wp2_with fail
      clear hpow
      go_loopw [5, 6] (fun v i wr2 => ∃ j : Nat, j ≤ zss.length ∧ i = .int .i64 j ∧ v = .bool (tblAt zss j k) ∧ wr2 = wo)
        (fun _ i _ => zss.length - (intOf i).toNat)
      case atStart => exact ⟨0, Nat.zero_le _, rfl, by rw [tblAt_zero], rfl⟩
      case round =>
        obtain ⟨j, hj, rfl, rfl, rfl⟩ := hrel
        by_cases hjl : j < zss.length
        · have hji : (j : Int) < (zss.length : Int) := by omega
          rcases HA.out.below HW.out (Nat.le_refl _) with h0 | ⟨b, o, rfl, hc⟩
          · rw [h0] at hjl; exact absurd hjl (Nat.not_lt_zero _)
          obtain ⟨ai, ci, hcell, hints⟩ := hc j hjl
          have HI := Lib.hid hints
          have hy := bitsOf_lt (HG.out j hjl) (by omega)
          have HS := Lib.hid (tblAt_succ zss j k)
          clear hc hints
          generalize tblAt zss j k = p at *
          go_wp2_with fail
          refine (l07Bits_any ai (nthL zss j) ci (h : Nat) _ HI.out (HG.out j hjl) (by omega) (HL.out j hjl)).mono ?_
          rintro e w' ⟨rfl, rfl⟩
          cases p with
          | true =>
            go_wp2_with fail
            go_roundw
            case rel => exact ⟨j + 1, by omega, by go_num, by rw [HS.out]; rfl, by simp⟩
            case measure => simp [intOf]; omega
          | false =>
            have HV := Lib.hid (show (bits BinOp.and IntKind.i64 ((bitsOf (nthL zss j) : Nat) : Int) (k : Int) == ((bitsOf (nthL zss j) : Nat) : Int)) = tblAt zss (j + 1) k by
              rw [i64_and_nat _ _ (by omega) (by omega), beq_tell, HS.out, Bool.false_or, ← tell_beq])
            generalize bitsOf (nthL zss j) = y at *
            go_wp2_with fail
            go_roundw
            case rel => exact ⟨j + 1, by omega, by go_num, by first | rw [← HV.out] | (rw [← HV.out]; simp), by simp⟩
            case measure => simp [intOf]; omega
        · have HJ := Lib.hid (show j = zss.length by omega)
          have HP := Lib.hid (show tblAt zss j k = tblAt zss zss.length k by rw [HJ.out])
          generalize tblAt zss j k = p at *
          go_wp2_with (at_builtin; refine wpList_append_own _ rfl _ _ 83 rfl w.heap.size 4 i0 (.bool false) 1 1 Tryd.underlying83 hi hz0 hz1 hz2 rfl (by decide) _ _ _ rfl (World.ownsRow.alloc HR.out _) ⟨wr.heap.size, 0, none⟩ 1 1 [.bool p] rfl rfl (cell_one_new _ _ _) (by simp [Value.oneCell']) (by unfold maxLen; omega) (by omega) (by simp; omega) ?_; intro v' w1 hown2 hgrow2 _; obtain ⟨g', cap', rfl⟩ := ownsRow_succ hown2; have HO2 := Lib.hid hown2; have HG2 := Lib.hid hgrow2; clear hown2 hgrow2)
          go_roundw
          case rel =>
            refine ⟨k + 1, g', cap', by omega, by go_num, rfl, ?_, ?_⟩
            · rw [bools_succ, ← HP.out]; exact HO2.out
            · exact (HW.out.alloc hszr _).grown HG2.out (by simp; omega) (fun q hq => by have := (HR.out.lt q hq).1; omega)
          case measure => simp [intOf]; omega
    · have HK := Lib.hid (show k = n by omega)
      have ht : Bools wr (some ⟨g, 0, none⟩) k (tblAt zss zss.length) := Bools.of_row HR.out
      have HT := Lib.hid ht
      clear ht
      go_wp2_with fail
      go_ret
      exact ⟨⟨g, cap, by rw [HK.out]; rfl, by rw [← HK.out]; exact HT.out⟩, HW.out⟩
end Go.Proofs.YthmjcmhaijiedaaDoor

namespace Go.Proofs.YthmjcmhaijiedaaDoor
open Go.RowKit Go.Deep Go.Shelf
set_option linter.unusedVariables false

theorem togZ_congr {z : List Int} {u : Int} {p q : Nat → Bool} {n : Nat} (h : ∀ x, x < n → p x = q x) : togZ z u p n = togZ z u q n := by
  unfold togZ
  refine List.map_congr_left fun x hx => ?_
  rw [h x (List.mem_range.1 hx)]
theorem togZ_mild {z : List Int} {u : Int} (p : Nat → Bool) (n : Nat) (hz : SmallK z) (hu : 0 ≤ u ∧ u ≤ 100000) : Mild (togZ z u p n) := fun i => by
  by_cases hi : i < n
  · rw [togZ_nth z u p hi]
    have := hz.mild i
    by_cases hj : i < z.length
    · have := hz i hj
      split <;> omega
    · rw [nth_out (by omega : z.length ≤ i)]
      split <;> omega
  · rw [nth_out (by rw [togZ_len]; omega)]; decide
theorem both_bad {h l : Int} {z : List Int} (h2 : Int) (zss : List (List Int)) (k : ¬ RkOk h l z) : bothC h l z h2 zss = 1 := by rw [bothC, if_neg (by rw [tell_false k]; simp)]
theorem both_fam {h l : Int} {z : List Int} {h2 : Int} {zss : List (List Int)} (k : RkOk h l z) (q : ¬ famC h2 zss = 0) : bothC h l z h2 zss = famC h2 zss := by rw [bothC, if_pos (tell_true k), if_neg q]
theorem both_range {h l : Int} {z : List Int} {h2 : Int} {zss : List (List Int)} (k : RkOk h l z) (q : famC h2 zss = 0) (e : ¬ h = h2) : bothC h l z h2 zss = 2 := by rw [bothC, if_pos (tell_true k), if_pos q, if_neg e]
theorem both_ok {h l : Int} {z : List Int} {h2 : Int} {zss : List (List Int)} (k : RkOk h l z) (q : famC h2 zss = 0) (e : h = h2) : bothC h l z h2 zss = 0 := by rw [bothC, if_pos (tell_true k), if_pos q, if_pos e]
theorem both_zero {h l : Int} {z : List Int} {h2 : Int} {zss : List (List Int)} (k : bothC h l z h2 zss = 0) : RkOk h l z ∧ famC h2 zss = 0 ∧ h = h2 := by
  by_cases a : RkOk h l z
  · by_cases b : famC h2 zss = 0
    · by_cases c : h = h2
      · exact ⟨a, b, c⟩
      · rw [both_range a b c] at k; exact absurd k (by decide)
    · rw [both_fam a b] at k; exact absurd k b
  · rw [both_bad h2 zss a] at k; exact absurd k (by decide)

structure GivesSec (W : World) (h l : Int) (z : List Int) (h2 : Int) (zss : List (List Int)) (e : Ending) (w' : World) : Prop where
  yes : bothC h l z h2 zss = 0 → ∃ r, e = .returned (.tuple #[.map (some r), .int .i64 0]) ∧ SecMap w' r z (togZ z l (tblAt zss zss.length) z.length)
  no : ¬ bothC h l z h2 zss = 0 → e = .returned (.tuple #[.map none, .int .i64 (bothC h l z h2 zss)])
  below : Below W.heap.size W w'

set_option maxHeartbeats 1000000 in
set_option maxRecDepth 100000 in
theorem ranksFor_any (h l : Int) (a : Option Addr) (z : List Int) (c : Nat) (h2 : Int) (b : Option Addr) (zss : List (List Int)) (d : Nat) (w : World) (hr : Ints w a z) (hl : LenI z) (hq : Rows2 w b zss) (hs : Small2 zss) :
    Calls Tryd.prog 55 #[.agg #[.int .i64 h, .int .i64 l, .slice a z.length c], .agg #[.int .i64 h2, .slice b zss.length d]] w (GivesSec w h l z h2 zss) := by
  have hb1 := alloc_b w (.cells #[.int .i64 h, .int .i64 l, .slice a z.length c] 32)
  have hb2 := alloc_b (w.alloc (.cells #[.int .i64 h, .int .i64 l, .slice a z.length c] 32)) (.cells #[.int .i64 h2, .slice b zss.length d] 34)
  have HX := Lib.hid ((boxes_new w #[.int .i64 h, .int .i64 l, .slice a z.length c] 32).step hb2)
  have hy := boxes_new (w.alloc (.cells #[.int .i64 h, .int .i64 l, .slice a z.length c] 32)) #[.int .i64 h2, .slice b zss.length d] 34
  rw [World.size_alloc] at hy
  have HY := Lib.hid hy
  have HR := Lib.hid ((hr.step hb1).step hb2)
  have HQ := Lib.hid ((hq.step hb1).step hb2)
  have HB := Lib.hid (chain hb1 hb2)
  have HLZ := Lib.hid hl
  have HS := Lib.hid hs
  clear hr hl hq hs hb1 hb2 hy
  go_enter Tryd.func55, Tryd.ntmps55
  go_wp2_with fail
  generalize (w.alloc (.cells #[.int .i64 h, .int .i64 l, .slice a z.length c] 32)).alloc (.cells #[.int .i64 h2, .slice b zss.length d] 34) = w1 at *
  refine (implVr_any h l a z c w1 HR.out HLZ.out).mono ?_
  rintro e w2 ⟨rfl, hb⟩
  have HX2 := Lib.hid (HX.out.step hb)
  have HY2 := Lib.hid (HY.out.step hb)
  have HR2 := Lib.hid (HR.out.step hb)
  have HQ2 := Lib.hid (HQ.out.step hb)
  have HB2 := Lib.hid (chain HB.out hb)
  clear hb HX HY HR HQ HB
  by_cases hk : RkOk h l z
  case neg =>
    have HT := Lib.hid (tell_false hk)
    have HV := Lib.hid (both_bad h2 zss hk)
    clear hk
    rw [HT.out]
    go_wp2_with fail
    refine bodyPost_ret (v := .tuple #[.map none, .int .i64 1]) (by simp [results, Tryd.results55, go_sem]) rfl ?_
    exact ⟨fun k => absurd (HV.out.symm.trans k) (by decide), fun _ => by rw [HV.out], HB2.out⟩
  have HT := Lib.hid (tell_true hk)
  have HK := Lib.hid hk
  clear hk
  rw [HT.out]
  have p0 := HX2.out.m0
  have p1 := HX2.out.m1
  have p2 := HX2.out.m2
  have q0 : w2.cell? ⟨w.heap.size + 1, 0, none⟩ = some (.int .i64 h2) := by rw [HY2.out.cell]; rfl
  have q1 : w2.cell? ⟨w.heap.size + 1, 1, none⟩ = some (.slice b zss.length d) := by rw [HY2.out.cell]; rfl
  go_wp2_with fail
  refine (rankedTable_any h2 b zss d w2 HQ2.out HS.out).mono ?_
  rintro e w3 ⟨hy, hn, hb⟩
  have HX3 := Lib.hid (HX2.out.step hb)
  have HY3 := Lib.hid (HY2.out.step hb)
  have HR3 := Lib.hid (HR2.out.step hb)
  have HB3 := Lib.hid (chain HB2.out hb)
  have HYY := Lib.hid hy
  have HNN := Lib.hid hn
  clear hb p0 p1 p2 q0 q1 hy hn HX2 HY2 HR2 HQ2 HB2
  by_cases hc : famC h2 zss = 0
  case neg =>
    obtain rfl := HNN.out hc
    have HV := Lib.hid (both_fam HK.out hc)
    generalize famC h2 zss = fc at *
    go_wp2_with fail
    refine bodyPost_ret (v := .tuple #[.map none, .int .i64 fc]) (by simp [results, Tryd.results55, go_sem]) rfl ?_
    exact ⟨fun k => absurd (HV.out.symm.trans k) hc, fun _ => by rw [HV.out], HB3.out⟩
  obtain ⟨T, rfl, ht⟩ := HYY.out hc
  have HTA := Lib.hid ht
  have HC := Lib.hid hc
  clear ht hc HYY HNN
  have p0 := HX3.out.m0
  have p1 := HX3.out.m1
  have p2 := HX3.out.m2
  have q0 : w3.cell? ⟨w.heap.size + 1, 0, none⟩ = some (.int .i64 h2) := by rw [HY3.out.cell]; rfl
  by_cases he : h = h2
  case neg =>
    have HV := Lib.hid (both_range HK.out HC.out he)
    go_wp2_with fail
    refine bodyPost_ret (v := .tuple #[.map none, .int .i64 2]) (by simp [results, Tryd.results55, go_sem]) rfl ?_
    exact ⟨fun k => absurd (HV.out.symm.trans k) (by decide), fun _ => by rw [HV.out], HB3.out⟩
  subst he
  have HV := Lib.hid (both_ok HK.out HC.out rfl)
  obtain ⟨m, rfl⟩ : ∃ m : Nat, h = (m : Int) := ⟨h.toNat, by have := HK.out.1.1.1; omega⟩
  have hm : m ≤ 5 := by have := HK.out.1.1.2; omega
  have HN := Lib.hid HK.out.len.symm
  have HTZ := Lib.hid (togZ_congr (z := z) (u := l) (n := z.length) (p := tabOf (m : Int) zss) (q := tblAt zss zss.length) fun x hx => tabOf_tbl (by omega) zss (by rw [← HK.out.len]; exact hx))
  go_wp2_with fail
  refine (withSecret_any m z.length T l a z c (tabOf (m : Int) zss) w3 HR3.out hm HN.out rfl HK.out.2.2.1 (by have := HK.out.1.2.1; omega) (by have := HTA.out; rw [Int.toNat_natCast] at this; exact this)).mono ?_
  rintro e w4 ⟨⟨r, rfl, hsm⟩, hb⟩
  have HSM := Lib.hid hsm
  have HB4 := Lib.hid (chain HB3.out hb)
  clear hsm hb p0 p1 p2 q0
  go_wp2_with fail
  refine bodyPost_ret (v := .tuple #[.map (some r), .int .i64 0]) (by simp [results, Tryd.results55, go_sem]) rfl ?_
  exact ⟨fun _ => ⟨r, rfl, by rw [← HTZ.out]; exact HSM.out⟩, fun k => absurd HV.out k, HB4.out⟩

end Go.Proofs.YthmjcmhaijiedaaDoor

namespace Go.Proofs.YthmjcmhaijiedaaDoor
open Go.RowKit Go.Deep Go.Shelf
set_option linter.unusedVariables false

theorem famC_bad {h : Int} {zss : List (List Int)} (k : ¬ FamOk h zss) : famC h zss = 1 := by rw [famC, if_neg (by rw [tell_false k]; simp)]
theorem famC_big {h : Int} {zss : List (List Int)} (k : FamOk h zss) (q : 5 < h) : famC h zss = 3 := by rw [famC, if_pos (tell_true k), if_pos q]
theorem famC_state {h : Int} {zss : List (List Int)} (k : FamOk h zss) (q : ¬ 5 < h) (s : zss.length = 0 ∨ (nthL zss 0).length = 0) : famC h zss = 4 := by rw [famC, if_pos (tell_true k), if_neg q, if_pos s]
theorem famC_in {h : Int} {zss : List (List Int)} (k : FamOk h zss) (q : ¬ 5 < h) (s : ¬ (zss.length = 0 ∨ (nthL zss 0).length = 0)) : famC h zss = 0 := by rw [famC, if_pos (tell_true k), if_neg q, if_neg s]

set_option maxRecDepth 100000 in
set_option maxHeartbeats 1000000 in
theorem l07Family_any (fb : Nat) (h : Int) (a : Option Addr) (zss : List (List Int)) (c : Nat) (w : World) (hbox : Boxes w fb 34 #[.int .i64 h, .slice a zss.length c]) (hr : Rows2 w a zss) (hl : Lens zss) :
    Calls Tryd.prog 97 #[.pointer (some ⟨fb, 0, none⟩)] w fun e w' => e = .returned (.int .i64 (famC h zss)) ∧ Below w.heap.size w w' := by
  have HX := Lib.hid hbox
  have HR := Lib.hid hr
  have HL := Lib.hid hl
  have p0 : w.cell? ⟨fb, 0, none⟩ = some (.int .i64 h) := by rw [hbox.cell]; rfl
  have p1 : w.cell? ⟨fb, 1, none⟩ = some (.slice a zss.length c) := by rw [hbox.cell]; rfl
  clear hbox hr hl
  go_enter Tryd.func97, Tryd.ntmps97
  go_wp2_with fail
  refine (specValid_any h a zss c w HR.out HL.out).mono ?_
  rintro e w2 ⟨rfl, hb⟩
  have HX2 := Lib.hid (HX.out.step hb)
  have HR2 := Lib.hid (HR.out.step hb)
  have HB2 := Lib.hid hb
  clear hb p0 p1 HX HR
  have p0 : w2.cell? ⟨fb, 0, none⟩ = some (.int .i64 h) := by rw [HX2.out.cell]; rfl
  have p1 : w2.cell? ⟨fb, 1, none⟩ = some (.slice a zss.length c) := by rw [HX2.out.cell]; rfl
  by_cases hk : FamOk h zss
  case neg =>
    have HT := Lib.hid (tell_false hk)
    have HV := Lib.hid (famC_bad hk)
    clear hk
    rw [HT.out]
    go_wp2_with fail
    go_ret
    exact ⟨by rw [HV.out]; rfl, HB2.out⟩
  have HT := Lib.hid (tell_true hk)
  have HK := Lib.hid hk
  clear hk
  rw [HT.out]
  by_cases h5 : 5 < h
  · have HV := Lib.hid (famC_big HK.out h5)
    go_wp2_with fail
    go_ret
    exact ⟨by rw [HV.out]; rfl, HB2.out⟩
  by_cases hz : zss.length = 0
  · have HV := Lib.hid (famC_state HK.out h5 (.inl hz))
    rw [hz] at p1
    go_wp2_with fail
    go_ret
    exact ⟨by rw [HV.out]; rfl, HB2.out⟩
  rcases HR2.out with h0 | ⟨b, o, rfl, hc⟩
  · rw [h0] at hz; exact absurd rfl hz
  obtain ⟨ai, ci, hcell, -⟩ := hc 0 (by omega)
  rw [Nat.add_zero] at hcell
  by_cases hy : (nthL zss 0).length = 0
  · have HV := Lib.hid (famC_state HK.out h5 (.inr hy))
    rw [hy] at hcell
    clear hc hy
    obtain ⟨nz, hnz⟩ : ∃ nz, zss.length = nz := ⟨_, rfl⟩
    rw [hnz] at p1 hz
    clear hnz
    have hnp : (0 : Int) < (nz : Int) := by omega
    have d1 : ((nz : Int) == 0) = false := by simp; omega
    have d1n : (nz == 0) = false := by simp; omega
    go_wp2_with fail
    go_ret
    exact ⟨by rw [HV.out]; rfl, HB2.out⟩
  · have HV := Lib.hid (famC_in HK.out h5 (fun f => f.elim hz hy))
    clear hc
    obtain ⟨nz, hnz⟩ : ∃ nz, zss.length = nz := ⟨_, rfl⟩
    rw [hnz] at p1 hz
    clear hnz
    obtain ⟨ny, hny⟩ : ∃ ny, (nthL zss 0).length = ny := ⟨_, rfl⟩
    rw [hny] at hcell hy
    clear hny
    have hnp : (0 : Int) < (nz : Int) := by omega
    have d1 : ((nz : Int) == 0) = false := by simp; omega
    have d1n : (nz == 0) = false := by simp; omega
    have d2 : ((ny : Int) == 0) = false := by simp; omega
    have d2n : (ny == 0) = false := by simp; omega
    go_wp2_with fail
    go_ret
    exact ⟨by rw [HV.out]; rfl, HB2.out⟩

set_option maxRecDepth 100000 in
set_option maxHeartbeats 1000000 in
theorem l07Both_any (q0 fb : Nat) (h l : Int) (a : Option Addr) (z : List Int) (c : Nat) (h2 : Int) (b : Option Addr) (zss : List (List Int)) (d : Nat) (w : World) (hx : Boxes w q0 32 #[.int .i64 h, .int .i64 l, .slice a z.length c]) (hy : Boxes w fb 34 #[.int .i64 h2, .slice b zss.length d])
    (hr : Ints w a z) (hl : LenI z) (hq : Rows2 w b zss) (hs : Lens zss) :
    Calls Tryd.prog 50 #[.pointer (some ⟨q0, 0, none⟩), .pointer (some ⟨fb, 0, none⟩)] w fun e w' => e = .returned (.int .i64 (bothC h l z h2 zss)) ∧ Below w.heap.size w w' := by
  have HX := Lib.hid hx
  have HY := Lib.hid hy
  have HQ := Lib.hid hq
  have HS := Lib.hid hs
  go_enter Tryd.func50, Tryd.ntmps50
  go_wp2_with fail
  refine (l07Ok_any q0 h l a z c w hx hr hl).mono ?_
  clear hx hy hr hl hq hs
  rintro e w2 ⟨rfl, hqq⟩
  have HX2 := Lib.hid (HX.out.step (quiet_below hqq))
  have HY2 := Lib.hid (HY.out.step (quiet_below hqq))
  have HQ2 := Lib.hid (HQ.out.step (quiet_below hqq))
  have HB2 := Lib.hid (quiet_below hqq)
  clear hqq HX HY HQ
  by_cases hk : RkOk h l z
  case neg =>
    have HT := Lib.hid (tell_false hk)
    have HV := Lib.hid (both_bad h2 zss hk)
    clear hk
    rw [HT.out]
    go_wp2_with fail
    go_ret
    exact ⟨by rw [HV.out]; rfl, HB2.out⟩
  have HT := Lib.hid (tell_true hk)
  have HK := Lib.hid hk
  clear hk
  rw [HT.out]
  go_wp2_with fail
  refine (l07Family_any fb h2 b zss d w2 HY2.out HQ2.out HS.out).mono ?_
  rintro e w3 ⟨rfl, hb⟩
  have p0 := (HX2.out.step hb).m0
  have q0' : w3.cell? ⟨fb, 0, none⟩ = some (.int .i64 h2) := by rw [(HY2.out.step hb).cell]; rfl
  have HB3 := Lib.hid (chain HB2.out hb)
  clear hb
  by_cases hc : famC h2 zss = 0
  case neg =>
    have HV := Lib.hid (both_fam HK.out hc)
    obtain ⟨fc, hfc⟩ : ∃ fc, famC h2 zss = fc := ⟨_, rfl⟩
    rw [hfc] at hc HV ⊢
    clear hfc
    go_wp2_with fail
    go_ret
    exact ⟨by rw [HV.out]; rfl, HB3.out⟩
  have HC := Lib.hid hc
  rw [hc]
  clear hc
  by_cases he : h = h2
  · have HV := Lib.hid (both_ok HK.out HC.out he)
    rw [he] at p0
    have d1 : (h2 != h2) = false := by simp
    go_wp2_with fail
    go_big_quiet (fail)
    go_wp2_with fail
    go_ret
    exact ⟨by rw [HV.out]; rfl, chain HB3.out (quiet_below ⟨_, rfl⟩)⟩
  · have HV := Lib.hid (both_range HK.out HC.out he)
    have d1 : (h != h2) = true := by simp [he]
    go_wp2_with fail
    go_big_quiet (fail)
    go_wp2_with fail
    go_ret
    exact ⟨by rw [HV.out]; rfl, chain HB3.out (quiet_below ⟨_, rfl⟩)⟩

theorem Bools.at0 {w : World} {g n : Nat} {p : Nat → Bool} (h : Bools w (some ⟨g, 0, none⟩) n p) {i : Nat} (hi : i < n) : w.cell? ⟨g, i, none⟩ = some (.bool (p i)) := by
  obtain ⟨bb, oo, he, hc⟩ := h
  cases he
  simpa using hc i hi
def grwB (p : Nat → Bool) (a b : Nat) : Bool := (a &&& b == a) && !p a && p b
def prtB (p : Nat → Bool) (a b : Nat) : Bool := p a && p b && !p (a &&& b)

set_option maxRecDepth 100000 in
set_option maxHeartbeats 1000000 in
theorem l07Grows_any (g n cap a b : Nat) (p : Nat → Bool) (w : World) (hb : Bools w (some ⟨g, 0, none⟩) n p) (ha : a < n) (hbn : b < n) (hn : n ≤ 32) :
    Calls Tryd.prog 98 #[.slice (some ⟨g, 0, none⟩) n cap, .int .i64 (a : Nat), .int .i64 (b : Nat)] w fun e w' => e = .returned (.bool (grwB p a b)) ∧ Quiet w w' := by
  have g1 := hb.at0 ha
  have g2 := hb.at0 hbn
  have i1 : (a : Int) < (n : Int) := by omega
  have i2 : (b : Int) < (n : Int) := by omega
  obtain ⟨q, hq⟩ : ∃ q, a &&& b = q := ⟨_, rfl⟩
  have ea : bits BinOp.and IntKind.i64 (a : Int) (b : Int) = (q : Int) := by rw [← hq]; exact i64_and_nat _ _ (by omega) (by omega)
  have HV := Lib.hid (show grwB p a b = ((q == a) && !p a && p b) by rw [grwB, hq])
  clear hq hb
  generalize p a = x at *
  generalize p b = y at *
  by_cases h1 : q = a
  · have d1 : ((q : Int) == (a : Int)) = true := by simp [h1]
    have d1n : (q == a) = true := by simp [h1]
    clear h1
    cases x <;> cases y
    all_goals (
      go_enter Tryd.func98, Tryd.ntmps98
      go_wp2
      try go_big_quiet (fail)
      go_wp2
      go_ret
      exact ⟨ret_bool (by rw [HV.out, d1n]; rfl), Quiet.refl _⟩)
  · have d1 : ((q : Int) == (a : Int)) = false := by simp; omega
    have d1n : (q == a) = false := by simp [h1]
    clear h1
    go_enter Tryd.func98, Tryd.ntmps98
    go_wp2
    try go_big_quiet (fail)
    go_wp2
    go_ret
    exact ⟨ret_bool (by rw [HV.out, d1n]; rfl), Quiet.refl _⟩

set_option maxRecDepth 100000 in
set_option maxHeartbeats 1000000 in
theorem l07Parts_any (g n cap a b : Nat) (p : Nat → Bool) (w : World) (hb : Bools w (some ⟨g, 0, none⟩) n p) (ha : a < n) (hbn : b < n) (hn : n ≤ 32) :
    Calls Tryd.prog 99 #[.slice (some ⟨g, 0, none⟩) n cap, .int .i64 (a : Nat), .int .i64 (b : Nat)] w fun e w' => e = .returned (.bool (prtB p a b)) ∧ Quiet w w' := by
  have g1 := hb.at0 ha
  have g2 := hb.at0 hbn
  have i1 : (a : Int) < (n : Int) := by omega
  have i2 : (b : Int) < (n : Int) := by omega
  have hqn : a &&& b < n := Nat.lt_of_le_of_lt Nat.and_le_left ha
  have g3 := hb.at0 hqn
  have ea : bits BinOp.and IntKind.i64 (a : Int) (b : Int) = ((a &&& b : Nat) : Int) := i64_and_nat _ _ (by omega) (by omega)
  have HV := Lib.hid (show prtB p a b = (p a && p b && !p (a &&& b)) from rfl)
  clear hb
  generalize a &&& b = q at *
  have i3 : (q : Int) < (n : Int) := by omega
  generalize p a = x at *
  generalize p b = y at *
  generalize p q = t at *
  cases x <;> cases y <;> cases t
  all_goals (
    go_enter Tryd.func99, Tryd.ntmps99
    go_wp2
    try go_big_quiet (fail)
    go_wp2
    go_ret
    exact ⟨ret_bool (by rw [HV.out]; rfl), Quiet.refl _⟩)
end Go.Proofs.YthmjcmhaijiedaaDoor

namespace Go.Proofs.YthmjcmhaijiedaaDoor
open Go.RowKit Go.Deep Go.Shelf
set_option linter.unusedVariables false

theorem Bools.dn {w : World} {a : Option Addr} {n : Nat} {p : Nat → Bool} (h : Bools w a n p) (k : Nat) : Bools (w.drewN k) a n p := h.step (quiet_below ⟨_, rfl⟩)
theorem Bools.dr {w : World} {a : Option Addr} {n : Nat} {p : Nat → Bool} (h : Bools w a n p) : Bools w.drew a n p := h.step (drew_step _)
theorem tbl_up {zss : List (List Int)} {k x y : Nat} (h : y &&& x = y) (hy : tblAt zss k y = true) : tblAt zss k x = true := by
  obtain ⟨i, hi, he⟩ := (tbl_iff zss k y).1 hy
  refine (tbl_iff zss k x).2 ⟨i, hi, ?_⟩
  rw [← he, Nat.and_assoc, h]
theorem misB_iff {z : List Int} {u : Int} {p : Nat → Bool} {a b : Nat} : MisAt z u p a b ↔ (grwB p a b = true ∧ nth z b - nth z a < u) ∨ (prtB p a b = true ∧ nth z a + nth z b - nth z (a ||| b) - nth z (a &&& b) < u) := by
  unfold MisAt grwB prtB
  simp only [Bool.and_eq_true, beq_iff_eq, Bool.not_eq_true']
  constructor
  · rintro (⟨⟨h1, h2, h3⟩, h4⟩ | ⟨⟨h1, h2, h3⟩, h4⟩)
    · exact .inl ⟨⟨⟨h1, h2⟩, h3⟩, h4⟩
    · exact .inr ⟨⟨⟨h1, h2⟩, h3⟩, h4⟩
  · rintro (⟨⟨⟨h1, h2⟩, h3⟩, h4⟩ | ⟨⟨⟨h1, h2⟩, h3⟩, h4⟩)
    · exact .inl ⟨⟨h1, h2, h3⟩, h4⟩
    · exact .inr ⟨⟨h1, h2, h3⟩, h4⟩

set_option maxRecDepth 100000 in
set_option maxHeartbeats 2000000 in
theorem l07Misfit_any (q0 g n cap m : Nat) (u : Int) (a : Option Addr) (z : List Int) (c : Nat) (p : Nat → Bool) (w : World) (hx : Boxes w q0 32 #[.int .i64 (m : Nat), .int .i64 u, .slice a z.length c]) (hr : Ints w a z) (hk : RkOk (m : Int) u z) (hn : z.length = n)
    (hb : Bools w (some ⟨g, 0, none⟩) n p) (hp : ∀ x, x < 2 ^ m → ∀ y, y < 2 ^ m → y &&& x = y → p y = true → p x = true) :
    Calls Tryd.prog 51 #[.pointer (some ⟨q0, 0, none⟩), .slice (some ⟨g, 0, none⟩) n cap] w fun e w' => e = .returned (.tuple #[.int .i64 (fltA (togZ z u p n) n : Nat), .int .i64 (fltB (togZ z u p n) n : Nat), .bool (fltO (togZ z u p n) n)]) ∧ Quiet w w' := by
  have hm5 : m ≤ 5 := by have := hk.1.1.2; omega
  have hnm : n = 2 ^ m := by rw [← hn]; exact hk.len
  have hn32 : n ≤ 32 := by rw [hnm]; exact pow5 hm5
  have HMI := Lib.hid (show ∀ x, x < n → ∀ y, y < n → (BadAt (togZ z u p n) x y ↔ MisAt z u p x y) by
    intro x hx y hy
    rw [hnm] at hx hy ⊢
    exact mis_iff hk hp hx hy)
  have HOR := Lib.hid (show ∀ x, x < n → ∀ y, y < n → x ||| y < n by
    intro x hx y hy
    rw [hnm] at hx hy ⊢
    exact Nat.or_lt_two_pow hx hy)
  have HS := Lib.hid hk.2.2.1
  have hu := hk.1.2.1
  have HX := Lib.hid hx
  have HR := Lib.hid hr
  have HBO := Lib.hid hb
  have HN := Lib.hid hn
  obtain ⟨y, hy⟩ : ∃ y, togZ z u p n = y := ⟨_, rfl⟩
  rw [hy] at HMI ⊢
  clear hx hr hb hn hk hp hnm hy
  go_enter Tryd.func51, Tryd.ntmps51
  go_wp2_with fail
  go_loopw [8, 9] (fun i _ wr => ∃ k : Nat, i = .int .i64 k ∧ k ≤ n ∧ Quiet w wr ∧ ∀ x, x < k → ∀ x', x' < n → ¬ BadAt y x x')
    (fun i _ _ => n - (intOf i).toNat)
  case atStart => exact ⟨0, rfl, Nat.zero_le _, Quiet.refl _, fun x hx => absurd hx (Nat.not_lt_zero _)⟩
  case round =>
    obtain ⟨k, rfl, hk, hq, hno⟩ := hrel
    have HQ := Lib.hid hq
    have HA := Lib.hid hno
    clear hq hno
    by_cases hlt : k < n
    case neg =>
      have HFF := Lib.hid (flt_no (show NoFault y n from fun x hx x' hx' => HA.out x (by omega) x' hx'))
      have hi0 : ¬ (k : Int) < (n : Int) := by omega
      go_wp2_with fail
      obtain ⟨e1, e2, e3⟩ := HFF.out
      refine bodyPost_ret (v := .tuple #[.int .i64 0, .int .i64 0, .bool false]) (by simp [results, Tryd.results51, go_sem]) rfl ?_
      exact ⟨by rw [e1, e2, e3]; rfl, HQ.out⟩
    have hi0 : (k : Int) < (n : Int) := by omega
    go_wp2_with fail
    go_loopw [9] (fun i wr2 => ∃ j : Nat, i = .int .i64 j ∧ j ≤ n ∧ Quiet w wr2 ∧ ∀ x, x < j → ¬ BadAt y k x)
      (fun i _ => n - (intOf i).toNat)
    case atStart => exact ⟨0, rfl, Nat.zero_le _, HQ.out, fun x hx => absurd hx (Nat.not_lt_zero _)⟩
    case round =>
      obtain ⟨j, rfl, hj, hq2, hno2⟩ := hrel
      have HQ2 := Lib.hid hq2
      have HA2 := Lib.hid hno2
      clear hno2
      by_cases hltj : j < n
      case neg =>
        have hj0 : ¬ (j : Int) < (n : Int) := by omega
        clear hq2
        go_wp2_with fail
        go_roundw
        case rel => exact ⟨k + 1, by go_num, by omega, HQ2.out, fun x hx x' hx' => by
          by_cases e : x = k
          · subst e; exact HA2.out x' (by omega)
          · exact HA.out x (by omega) x' hx'⟩
        case measure => simp [intOf]; omega
      have hj0 : (j : Int) < (n : Int) := by omega
      have hxb := HX.out.step (quiet_below hq2)
      have pu := hxb.m1
      have p2 := hxb.m2
      have hlq := hxb.lt
      rw [HN.out] at p2
      have HBR := Lib.hid (HBO.out.step (quiet_below hq2))
      have hl1 : k < z.length := by rw [HN.out]; exact hlt
      rcases HR.out.quiet hq2 with h | ⟨b, o, rfl, hc⟩
      · rw [h] at hl1; exact absurd hl1 (Nat.not_lt_zero _)
      rw [HN.out] at hc hl1
      clear hl1 hxb
      have HMB := Lib.hid ((HMI.out k hlt j hltj).trans misB_iff)
      have HGR := Lib.hid (fun W (h : Bools W (some ⟨g, 0, none⟩) n p) => l07Grows_any g n cap k j p W h hlt hltj hn32)
      have HPR := Lib.hid (fun W (h : Bools W (some ⟨g, 0, none⟩) n p) => l07Parts_any g n cap k j p W h hlt hltj hn32)
      have hp1 := HOR.out k hlt j hltj
      have hq1 : k &&& j < n := Nat.lt_of_le_of_lt Nat.and_le_left hlt
      have eo : bits BinOp.or IntKind.i64 (k : Int) (j : Int) = ((k ||| j : Nat) : Int) := i64_or_nat _ _ (by omega) (by omega)
      have ea : bits BinOp.and IntKind.i64 (k : Int) (j : Int) = ((k &&& j : Nat) : Int) := i64_and_nat _ _ (by omega) (by omega)
      have g1 := hc k hlt
      have g2 := hc j hltj
      have g3 := hc _ hp1
      have g4 := hc _ hq1
      have b1 := HS.out k (by rw [HN.out]; exact hlt)
      have b2 := HS.out j (by rw [HN.out]; exact hltj)
      have b3 := HS.out (k ||| j) (by rw [HN.out]; exact hp1)
      have b4 := HS.out (k &&& j) (by rw [HN.out]; exact hq1)
      clear hc hq2
      generalize grwB p k j = gv at *
      generalize prtB p k j = tv at *
      generalize nth z k = x1 at *
      generalize nth z j = x2 at *
      generalize nth z (k ||| j) = x3 at *
      generalize nth z (k &&& j) = x4 at *
      generalize k ||| j = pp at *
      generalize k &&& j = qq at *
      have hp0 : (pp : Int) < (n : Int) := by omega
      have hq0 : (qq : Int) < (n : Int) := by omega
      have s1 : IntKind.i64.wrap (x2 - x1) = x2 - x1 := IntWalk.i64_in _ (by omega)
      have s2 : IntKind.i64.wrap (x1 + x2) = x1 + x2 := IntWalk.i64_in _ (by omega)
      have s3 : IntKind.i64.wrap (x1 + x2 - x3) = x1 + x2 - x3 := IntWalk.i64_in _ (by omega)
      have s4 : IntKind.i64.wrap (x1 + x2 - x3 - x4) = x1 + x2 - x3 - x4 := IntWalk.i64_in _ (by omega)
      clear b1 b2 b3 b4 hp1 hq1
      cases gv with
      | true =>
        by_cases b1 : x2 - x1 < u
        · have d1 : decide (x2 - x1 < u) = true := by simp [b1]
          have HFF := Lib.hid (flt_at (show FaultAt y n k j from ⟨hlt, hltj, HMB.out.2 (.inl ⟨rfl, b1⟩), HA.out, HA2.out⟩))
          clear b1
          go_wp2_with fail
          go_big_quiet ((go_at_call 98; exact Calls.quiet_of (HGR.out _ (by repeat (first | exact HBR.out | apply Bools.dn | apply Bools.dr)))))
          go_wp2_with fail
          obtain ⟨e1, e2, e3⟩ := HFF.out
          refine bodyPost_ret (v := .tuple #[.int .i64 (k : Nat), .int .i64 (j : Nat), .bool true]) (by simp [results, Tryd.results51, go_sem]) rfl ?_
          exact ⟨by rw [e1, e2, e3], HQ2.out.trans ⟨_, rfl⟩⟩
        · have d1 : decide (x2 - x1 < u) = false := by simp [b1]
          have HB1 := Lib.hid b1
          clear b1
          cases tv with
          | true =>
            by_cases b2 : x1 + x2 - x3 - x4 < u
            · have d2 : decide (x1 + x2 - x3 - x4 < u) = true := by simp [b2]
              have HFF := Lib.hid (flt_at (show FaultAt y n k j from ⟨hlt, hltj, HMB.out.2 (.inr ⟨rfl, b2⟩), HA.out, HA2.out⟩))
              skip
              clear b2
              go_wp2_with fail
              go_big_quiet ((go_at_call 98; exact Calls.quiet_of (HGR.out _ (by repeat (first | exact HBR.out | apply Bools.dn | apply Bools.dr)))))
              go_wp2_with fail
              have hqx : Quiet wr (wr.drewN nq) := ⟨nq, rfl⟩
              have G1 := (hqx.cell _).trans g1
              have G2 := (hqx.cell _).trans g2
              have G3 := (hqx.cell _).trans g3
              have G4 := (hqx.cell _).trans g4
              have PU := (hqx.cell _).trans pu
              have P2 := (hqx.cell _).trans p2
              have HBX := Lib.hid (HBR.out.step (quiet_below hqx))
              have HQX := Lib.hid (HQ2.out.trans hqx)
              clear g1 g2 g3 g4 pu p2 hqx
              generalize wr.drewN nq = wx at *
              go_big_quiet ((go_at_call 99; exact Calls.quiet_of (HPR.out _ (by repeat (first | exact HBX.out | apply Bools.dn | apply Bools.dr)))))
              go_wp2_with fail
              obtain ⟨e1, e2, e3⟩ := HFF.out
              refine bodyPost_ret (v := .tuple #[.int .i64 (k : Nat), .int .i64 (j : Nat), .bool true]) (by simp [results, Tryd.results51, go_sem]) rfl ?_
              exact ⟨by rw [e1, e2, e3], HQX.out.trans ⟨_, rfl⟩⟩
            · have d2 : decide (x1 + x2 - x3 - x4 < u) = false := by simp [b2]
              have HNO := Lib.hid (show ¬ BadAt y k j from fun f => (HMB.out.1 f).elim (fun q => HB1.out q.2) (fun q => b2 q.2))
              skip
              clear b2
              go_wp2_with fail
              go_big_quiet ((go_at_call 98; exact Calls.quiet_of (HGR.out _ (by repeat (first | exact HBR.out | apply Bools.dn | apply Bools.dr)))))
              go_wp2_with fail
              have hqx : Quiet wr (wr.drewN nq) := ⟨nq, rfl⟩
              have G1 := (hqx.cell _).trans g1
              have G2 := (hqx.cell _).trans g2
              have G3 := (hqx.cell _).trans g3
              have G4 := (hqx.cell _).trans g4
              have PU := (hqx.cell _).trans pu
              have P2 := (hqx.cell _).trans p2
              have HBX := Lib.hid (HBR.out.step (quiet_below hqx))
              have HQX := Lib.hid (HQ2.out.trans hqx)
              clear g1 g2 g3 g4 pu p2 hqx
              generalize wr.drewN nq = wx at *
              go_big_quiet ((go_at_call 99; exact Calls.quiet_of (HPR.out _ (by repeat (first | exact HBX.out | apply Bools.dn | apply Bools.dr)))))
              go_wp2_with fail
              go_roundw
              case rel => exact ⟨j + 1, by go_num, by omega, HQX.out.trans ⟨_, rfl⟩, fun x hx => by
                by_cases e : x = j
                · subst e; exact HNO.out
                · exact HA2.out x (by omega)⟩
              case measure => simp [intOf]; omega
          | false =>
            have HNO := Lib.hid (show ¬ BadAt y k j from fun f => (HMB.out.1 f).elim (fun q => HB1.out q.2) (fun q => Bool.noConfusion q.1))
            skip
            go_wp2_with fail
            go_big_quiet ((go_at_call 98; exact Calls.quiet_of (HGR.out _ (by repeat (first | exact HBR.out | apply Bools.dn | apply Bools.dr)))))
            go_wp2_with fail
            have hqx : Quiet wr (wr.drewN nq) := ⟨nq, rfl⟩
            have G1 := (hqx.cell _).trans g1
            have G2 := (hqx.cell _).trans g2
            have G3 := (hqx.cell _).trans g3
            have G4 := (hqx.cell _).trans g4
            have PU := (hqx.cell _).trans pu
            have P2 := (hqx.cell _).trans p2
            have HBX := Lib.hid (HBR.out.step (quiet_below hqx))
            have HQX := Lib.hid (HQ2.out.trans hqx)
            clear g1 g2 g3 g4 pu p2 hqx
            generalize wr.drewN nq = wx at *
            go_big_quiet ((go_at_call 99; exact Calls.quiet_of (HPR.out _ (by repeat (first | exact HBX.out | apply Bools.dn | apply Bools.dr)))))
            go_wp2_with fail
            go_roundw
            case rel => exact ⟨j + 1, by go_num, by omega, HQX.out.trans ⟨_, rfl⟩, fun x hx => by
              by_cases e : x = j
              · subst e; exact HNO.out
              · exact HA2.out x (by omega)⟩
            case measure => simp [intOf]; omega
      | false =>
        cases tv with
        | true =>
          by_cases b2 : x1 + x2 - x3 - x4 < u
          · have d2 : decide (x1 + x2 - x3 - x4 < u) = true := by simp [b2]
            have HFF := Lib.hid (flt_at (show FaultAt y n k j from ⟨hlt, hltj, HMB.out.2 (.inr ⟨rfl, b2⟩), HA.out, HA2.out⟩))
            skip
            clear b2
            go_wp2_with fail
            go_big_quiet ((go_at_call 98; exact Calls.quiet_of (HGR.out _ (by repeat (first | exact HBR.out | apply Bools.dn | apply Bools.dr)))))
            go_wp2_with fail
            have hqx : Quiet wr (wr.drewN nq) := ⟨nq, rfl⟩
            have G1 := (hqx.cell _).trans g1
            have G2 := (hqx.cell _).trans g2
            have G3 := (hqx.cell _).trans g3
            have G4 := (hqx.cell _).trans g4
            have PU := (hqx.cell _).trans pu
            have P2 := (hqx.cell _).trans p2
            have HBX := Lib.hid (HBR.out.step (quiet_below hqx))
            have HQX := Lib.hid (HQ2.out.trans hqx)
            clear g1 g2 g3 g4 pu p2 hqx
            generalize wr.drewN nq = wx at *
            go_big_quiet ((go_at_call 99; exact Calls.quiet_of (HPR.out _ (by repeat (first | exact HBX.out | apply Bools.dn | apply Bools.dr)))))
            go_wp2_with fail
            obtain ⟨e1, e2, e3⟩ := HFF.out
            refine bodyPost_ret (v := .tuple #[.int .i64 (k : Nat), .int .i64 (j : Nat), .bool true]) (by simp [results, Tryd.results51, go_sem]) rfl ?_
            exact ⟨by rw [e1, e2, e3], HQX.out.trans ⟨_, rfl⟩⟩
          · have d2 : decide (x1 + x2 - x3 - x4 < u) = false := by simp [b2]
            have HNO := Lib.hid (show ¬ BadAt y k j from fun f => (HMB.out.1 f).elim (fun q => Bool.noConfusion q.1) (fun q => b2 q.2))
            skip
            clear b2
            go_wp2_with fail
            go_big_quiet ((go_at_call 98; exact Calls.quiet_of (HGR.out _ (by repeat (first | exact HBR.out | apply Bools.dn | apply Bools.dr)))))
            go_wp2_with fail
            have hqx : Quiet wr (wr.drewN nq) := ⟨nq, rfl⟩
            have G1 := (hqx.cell _).trans g1
            have G2 := (hqx.cell _).trans g2
            have G3 := (hqx.cell _).trans g3
            have G4 := (hqx.cell _).trans g4
            have PU := (hqx.cell _).trans pu
            have P2 := (hqx.cell _).trans p2
            have HBX := Lib.hid (HBR.out.step (quiet_below hqx))
            have HQX := Lib.hid (HQ2.out.trans hqx)
            clear g1 g2 g3 g4 pu p2 hqx
            generalize wr.drewN nq = wx at *
            go_big_quiet ((go_at_call 99; exact Calls.quiet_of (HPR.out _ (by repeat (first | exact HBX.out | apply Bools.dn | apply Bools.dr)))))
            go_wp2_with fail
            go_roundw
            case rel => exact ⟨j + 1, by go_num, by omega, HQX.out.trans ⟨_, rfl⟩, fun x hx => by
              by_cases e : x = j
              · subst e; exact HNO.out
              · exact HA2.out x (by omega)⟩
            case measure => simp [intOf]; omega
        | false =>
          have HNO := Lib.hid (show ¬ BadAt y k j from fun f => (HMB.out.1 f).elim (fun q => Bool.noConfusion q.1) (fun q => Bool.noConfusion q.1))
          skip
          go_wp2_with fail
          go_big_quiet ((go_at_call 98; exact Calls.quiet_of (HGR.out _ (by repeat (first | exact HBR.out | apply Bools.dn | apply Bools.dr)))))
          go_wp2_with fail
          have hqx : Quiet wr (wr.drewN nq) := ⟨nq, rfl⟩
          have G1 := (hqx.cell _).trans g1
          have G2 := (hqx.cell _).trans g2
          have G3 := (hqx.cell _).trans g3
          have G4 := (hqx.cell _).trans g4
          have PU := (hqx.cell _).trans pu
          have P2 := (hqx.cell _).trans p2
          have HBX := Lib.hid (HBR.out.step (quiet_below hqx))
          have HQX := Lib.hid (HQ2.out.trans hqx)
          clear g1 g2 g3 g4 pu p2 hqx
          generalize wr.drewN nq = wx at *
          go_big_quiet ((go_at_call 99; exact Calls.quiet_of (HPR.out _ (by repeat (first | exact HBX.out | apply Bools.dn | apply Bools.dr)))))
          go_wp2_with fail
          go_roundw
          case rel => exact ⟨j + 1, by go_num, by omega, HQX.out.trans ⟨_, rfl⟩, fun x hx => by
            by_cases e : x = j
            · subst e; exact HNO.out
            · exact HA2.out x (by omega)⟩
          case measure => simp [intOf]; omega

end Go.Proofs.YthmjcmhaijiedaaDoor
