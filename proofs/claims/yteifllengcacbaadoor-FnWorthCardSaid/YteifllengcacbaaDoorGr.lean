/- The groups that are chosen, as lists: groupsWhere. -/
import Derived.Test.YteifllengcacbaaDoorSw
namespace Go.Proofs.YteifllengcacbaaDoor
open Go.RowKit Go.Deep Go.Shelf
set_option linter.unusedVariables false

set_option maxRecDepth 100000 in
set_option maxHeartbeats 1000000 in
theorem groupsWhere_any (h : Nat) (fv : Value) (xs : List Nat) (w : World) (hx : ∀ x ∈ xs, x < 128) (hlen : xs.length ≤ 128)
    (hS : ∀ W, Below w.heap.size w W → Calls Tryd.prog 77 #[.int .i64 (h : Nat), fv] W (GivesSets W xs)) :
    Calls Tryd.prog 48 #[.int .i64 (h : Nat), fv] w (GivesRows w (xs.map listOf)) := by
  obtain ⟨i0, hi, hz0, hz1, hz2⟩ := info_parts Tryd.infoInt64S
  have HX := Lib.hid hx
  have HSW := Lib.hid hS
  clear hx hS
  go_enter Tryd.func48, Tryd.ntmps48
  go_wp2_with fail
  refine (HSW.out _ ?_).mono ?_
  · first | exact (Below.refl _ _).alloc (Nat.le_refl _) _ | exact Below.refl _ _
  have hown0 : (w.alloc (.cells #[] 28)).ownsRow w.heap.size 28 1 (.slice (some ⟨w.heap.size, 0, none⟩) 0 0) 0 [] := World.ownsRow_made w #[] 0 (Nat.le_refl _) (by unfold maxLen; omega) rfl
  have hb0 := (Below.refl w.heap.size w).alloc (Nat.le_refl _) (.cells #[] 28)
  rintro e w1 ⟨⟨v1, rfl, hrow1⟩, hb1⟩
  obtain ⟨a1, c1, rfl⟩ := rowForm hrow1
  have hown1 := row_step hown0 hb1
  have hbel1 := chain hb0 hb1
  have hrow1' := ownsRow_mono hrow1 (base' := w.heap.size) hb0.size
  clear hown0 hb0 hb1 hrow1 HSW
  generalize (Value.slice (some ⟨w.heap.size, 0, none⟩) 0 0) = v0 at *
  go_wp2_with fail
  go_loopw [5, 13] (fun v i wr => ∃ (k : Nat) (us : List Value), k ≤ xs.length ∧ i = .int .i64 k ∧ wr.ownsRow w.heap.size 28 1 v k us ∧ RowsOwn wr w.heap.size us ((xs.take k).map listOf) ∧ Below w.heap.size w wr ∧ wr.ownsRow w.heap.size 60 1 (.slice a1 xs.length c1) xs.length (setVals xs))
    (fun _ i _ => xs.length - (intOf i).toNat)
  case atStart => exact ⟨0, [], by omega, rfl, hown1, RowsOwn.nil _ _, hbel1, hrow1'⟩
  case round =>
    obtain ⟨k, us, hk, rfl, hrow, hrows, hbel, hsets⟩ := hrel
    clear hown1 hbel1 hrow1'
    have hszr := hbel.size
    have HROW := Lib.hid hrow
    have HROWS := Lib.hid hrows
    have HB := Lib.hid hbel
    by_cases hlt : k < xs.length
    · obtain ⟨g, rfl, hc⟩ := row_cell hsets hlt
      rw [show (setVals xs)[k]? = some (.int .u64 ((xs[k] : Nat) : Int)) by simp [setVals, hlt]] at hc
      have HSE := Lib.hid hsets
      have hxk := HX.out xs[k] (List.getElem_mem hlt)
      have hki : (k : Int) < (xs.length : Int) := by omega
      have HTK := Lib.hid (List.take_succ_eq_append_getElem hlt)
      generalize xs[k] = x at *
      clear hrow hrows hbel hsets
      go_wp2_with (first
        | (go_at_call 72; refine (list_any x wr hxk).mono ?_; rintro e w' ⟨⟨u, rfl, hu⟩, hb⟩; obtain ⟨ua, uc, rfl⟩ := hu.form; have hsz' := Nat.le_trans hszr hb.size; have HU := Lib.hid hu; have HBW := Lib.hid hb; have HROW' := Lib.hid (row_step HROW.out hb); clear hu hb hc)
        | (at_builtin; refine wpList_append_own _ rfl _ _ 24 rfl w.heap.size 28 i0 (.slice none 0 0) 1 24 Tryd.underlying24 hi hz0 hz1 hz2 rfl (by decide) _ _ _ rfl (World.ownsRow.alloc HROW'.out _) ⟨w'.heap.size, 0, none⟩ 1 1 [.slice ua (listOf x).length uc] rfl rfl (cell_one_new _ _ _) (by simp [Value.oneCell']) (by unfold maxLen; omega) (by omega) (by simp; omega) ?_; intro v' w1 hown2 hgrow2 _; have HO2 := Lib.hid hown2; have HG2 := Lib.hid hgrow2; clear hown2 hgrow2))
      go_wp2
      go_roundw
      case rel =>
        refine ⟨k + 1, us ++ [.slice ua (listOf x).length uc], by omega, by go_num, HO2.out, ?_, ?_, ?_⟩
        · rw [HTK.out, List.map_append]
          exact (HROWS.out.snoc HBW.out HU.out hszr).map fun z zs hz => (World.ownsRow.alloc hz _).kept HG2.out (rows_apart hz HROW'.out (by decide))
        · exact ((HB.out.trans (HBW.out.mono hszr)).alloc hsz' _).grown HG2.out (by simp; omega) (fun q hq => (HROW'.out.lt q hq).1)
        · have s1 := row_step HSE.out HBW.out
          exact (World.ownsRow.alloc s1 _).kept HG2.out (rows_apart s1 HROW'.out (by decide))
      case measure => simp [intOf]; omega
    · have HE := Lib.hid (show k = xs.length by omega)
      clear hrow hrows hbel hsets
      go_wp2_with fail
      go_ret
      refine ⟨⟨_, us, rfl, ?_, ?_⟩, HB.out⟩
      · rw [List.length_map, ← HE.out]; exact HROW.out
      · have := HROWS.out
        rw [HE.out, List.take_length] at this
        exact this

theorem pickOf_pickN (p : Nat → Bool) (l : List G7) : (pickN p l).map listOf = pickOf p l := by simp [pickN, pickOf, Function.comp_def]
theorem pickN_small (p : Nat → Bool) (l : List G7) : ∀ x ∈ pickN p l, x < 128 := fun x hx => by
  simp only [pickN, List.mem_map] at hx
  obtain ⟨y, _, rfl⟩ := hx
  exact y.isLt

/-- The groups that a chooser chooses. -/
theorem groupsBy_any (h : Nat) (fid : FuncId) (cl cr : Array Value) (p : Nat → Bool) (w : World) (h1 : 1 ≤ h) (h7 : h ≤ 7) (hC : ∀ W, Below w.heap.size w W → Chooses W fid cl cr p) :
    Calls Tryd.prog 48 #[.int .i64 (h : Nat), .func (.func fid) cl cr] w (GivesRows w (pickOf p (lexAll h))) := by
  rw [← pickOf_pickN]
  exact groupsWhere_any h _ _ w (pickN_small _ _) (Nat.le_trans (pickN_len _ _) (lexAll_len h7)) fun W hb => setsWhere_any h fid cl cr p W h1 h7 (hC W hb)

theorem isLeast_chooses (T h : Nat) (q : Nat → Bool) (w : World) (h7 : h ≤ 7) (ht : TableAt w T h q) (hT : T < w.heap.size) : Chooses w 83 #[.pointer (some ⟨T, 0, none⟩)] #[] (leastB h q) :=
  ⟨enters_of Tryd.func83 (by kernel_rfl) rfl, fun x W hb => (isLeast_any T h x.val q W x.isLt h7 (ht.below hb hT)).mono fun e w' ⟨he, hw⟩ => ⟨he, by subst hw; exact Below.refl _ _⟩⟩

theorem groupsLeast_any (T h : Nat) (q : Nat → Bool) (w : World) (h1 : 1 ≤ h) (h7 : h ≤ 7) (ht : TableAt w T h q) (hT : T < w.heap.size) :
    Calls Tryd.prog 48 #[.int .i64 (h : Nat), .func (.func 83) #[.pointer (some ⟨T, 0, none⟩)] #[]] w (GivesRows w (pickOf (leastB h q) (lexAll h))) :=
  groupsBy_any h _ _ _ _ w h1 h7 fun W hb => isLeast_chooses T h q W h7 (ht.below hb hT) (Nat.lt_of_lt_of_le hT hb.size)
end Go.Proofs.YteifllengcacbaaDoor
