/- rebuilt of the program, for a function that makes a node of a node. -/
import Derived.Test.YtjhggglaglpgfaaGt
import Derived.Maps.AppendAt
namespace Go.Proofs.Ytjhggglaglpgfaa
open Go.RowKit Go.Deep
set_option linter.unusedVariables false
attribute [local go_sem ↓] Go.wp_at_zero Go.wp_at_succ

namespace Fo
/-- Gates in which each one, from the leaves on, is what a function makes of it. -/
def re (F : Int → Int → Fo → Int × Int × Fo) : Fo → Fo
  | nil => nil
  | cons h l k r => cons (F h l (k.re F)).1 (F h l (k.re F)).2.1 (F h l (k.re F)).2.2 (r.re F)
theorem re_len (F : Int → Int → Fo → Int × Int × Fo) (f : Fo) : (f.re F).len = f.len := by
  induction f with
  | nil => rfl
  | cons h l k r _ ih => simp only [re, len, ih]
theorem re_get (F : Int → Int → Fo → Int × Int × Fo) (f : Fo) {i : Nat} (hi : i < f.len) : (f.re F).hAt i = (F (f.hAt i) (f.lAt i) ((f.kAt i).re F)).1 ∧ (f.re F).lAt i = (F (f.hAt i) (f.lAt i) ((f.kAt i).re F)).2.1 ∧ (f.re F).kAt i = (F (f.hAt i) (f.lAt i) ((f.kAt i).re F)).2.2 := by
  induction f generalizing i with
  | nil => simp [len] at hi
  | cons h l k r _ ih =>
    cases i with
    | zero => exact ⟨rfl, rfl, rfl⟩
    | succ i => exact ih (by simp [len] at hi; omega)
theorem re_nil {F : Int → Int → Fo → Int × Int × Fo} {f : Fo} (h : f.re F = nil) : f = nil := by
  have := congrArg len h
  rw [re_len] at this
  exact len_zero this
end Fo
/-- What a function makes of a node, wherever it is called. -/
structure Makes (W0 : World) (fid : FuncId) (cl cr : Array Value) (n : Int) (F : Int → Int → Fo → Int × Int × Fo) : Prop where
  enters : ∀ args w, (callFunc fid args).run Try.prog w = .ok (.enter fid args) w
  calls : ∀ (W : World) (ok : Nat → Prop) (h l : Int) (f : Fo) (t : TypeId) (v : Value), Below W0.heap.size W0 W → f.size ≤ 1048576 → Fo.gform n h l f → NV W ok h l f (.iface t v) →
    Calls Try.prog fid (cl.push (.iface t v) ++ cr) W fun e w' => (∃ t' v', e = .returned (.iface t' v') ∧ NV w' (fun b => ok b ∨ W.heap.size ≤ b) (F h l f).1 (F h l f).2.1 (F h l f).2.2 (.iface t' v')) ∧ Below W.heap.size W w'
/-- What is made of a gate of the right form has the right form. -/
def Forms (n : Int) (F : Int → Int → Fo → Int × Int × Fo) : Prop := ∀ h l k, Fo.gform n h l k → Fo.gform n (F h l k).1 (F h l k).2.1 (F h l k).2.2
theorem re_form {n : Int} {F : Int → Int → Fo → Int × Int × Fo} (hF : Forms n F) : ∀ {f : Fo}, f.form n → (f.re F).form n := by
  intro f
  induction f with
  | nil => exact fun _ => trivial
  | cons h l k r ihk ihr =>
    intro hf
    refine ⟨hF h l (k.re F) ?_, ihr hf.2⟩
    rcases hf.1 with ⟨h1, h2⟩ | ⟨h1, h2, h3, h4, h5⟩
    · exact .inl ⟨by rw [Fo.re_len]; exact h1, h2⟩
    · exact .inr ⟨by rw [Fo.re_len]; exact h1, h2, h3, by rw [Fo.re_len]; exact h4, ihk h5⟩
theorem re_gform {n : Int} {F : Int → Int → Fo → Int × Int × Fo} (hF : Forms n F) {h l : Int} {f : Fo} (hg : Fo.gform n h l f) : Fo.gform n h l (f.re F) := by
  rcases hg with ⟨h1, h2⟩ | ⟨h1, h2, h3, h4, h5⟩
  · exact .inl ⟨by rw [Fo.re_len]; exact h1, h2⟩
  · exact .inr ⟨by rw [Fo.re_len]; exact h1, h2, h3, by rw [Fo.re_len]; exact h4, re_form hF h5⟩

set_option maxRecDepth 100000 in
set_option maxHeartbeats 4000000 in
theorem rebuilt_any : ∀ (m : Nat) (f : Fo), f.size < m → m ≤ 1048577 → ∀ (ok : Nat → Prop) (n : Nat) (h l : Int) (fid : FuncId) (cl cr : Array Value) (F : Int → Int → Fo → Int × Int × Fo) (t : TypeId) (v : Value) (W0 w : World), n ≤ 7 → Forms n F → (∀ g : Fo, g.size ≤ f.size → (g.re F).size ≤ 1048576) → Fo.gform n h l f → NV w ok h l f (.iface t v) →
    Makes W0 fid cl cr n F → Below W0.heap.size W0 w →
    Calls Try.prog 31 #[.iface t v, .func (.func fid) cl cr] w fun e w' => (∃ t' v', e = .returned (.iface t' v') ∧ NV w' (fun b => ok b ∨ w.heap.size ≤ b) (F h l (f.re F)).1 (F h l (f.re F)).2.1 (F h l (f.re F)).2.2 (.iface t' v')) ∧ Below w.heap.size w w' := by
  intro m
  induction m with
  | zero => exact fun f hf => absurd hf (Nat.not_lt_zero _)
  | succ m ih =>
    intro f hf hm ok n h l fid cl cr F t v W0 w hn hFo hrs hg hv hM hB
    have hlen := f.len_le
    have HIH := Lib.hid ih
    have HFO := Lib.hid hFo
    have HG := Lib.hid hg
    have HRS := Lib.hid hrs
    clear hrs
    have hE := hM.enters
    have HM := Lib.hid hM.calls
    have HB0 := Lib.hid hB
    have ta1 := assert_tt
    have ta2 := assert_lt
    have HRG := Lib.hid (re_gform hFo hg)
    clear ih hFo hg hM hB
    rcases hv with ⟨rfl, e⟩ | ⟨hne, b', o', c, e, hb', h4⟩
    · cases e
      go_enter Try.func31, Try.ntmps31
      go_wp2_with fail
      refine (HM.out w ok h l .nil _ _ HB0.out (by omega) HG.out (.inl ⟨rfl, rfl⟩)).mono ?_
      rintro e w2 ⟨⟨t2, v2, rfl, hn2⟩, hb2⟩
      have HN2 := Lib.hid hn2
      have HB2 := Lib.hid hb2
      clear hn2 hb2
      go_wp2_with fail
      go_ret
      exact ⟨⟨t2, v2, rfl, HN2.out⟩, HB2.out⟩
    · cases e
      have hpos : 0 < f.len := by
        cases f with
        | nil => exact absurd rfl hne
        | cons => exact Nat.succ_pos _
      have HPOS := Lib.hid hpos
      have HNA := Lib.hid (show NAt w (fun q => ok q ∧ q < w.heap.size) f b' o' from by
        have := NV.map (W' := w) (ok' := fun q => ok q ∧ q < w.heap.size) (fun b o v q hc => ⟨⟨q, World.block_lt_of_cell? _ _ hc⟩, hc⟩) (show NV w ok h l f _ from .inr ⟨hne, b', o', c, rfl, hb', h4⟩)
        rcases this with ⟨e, _⟩ | ⟨_, b2, o2, c2, e, _, q⟩
        · exact absurd e hne
        · cases e; exact q)
      have HBO := Lib.hid (show ok b' ∧ b' < w.heap.size from by
        cases f with
        | nil => exact absurd rfl hne
        | cons y m k2 r2 =>
          obtain ⟨⟨u, h5, _⟩, _⟩ := h4
          exact ⟨hb', World.block_lt_of_cell? _ _ h5⟩)
      have HF := Lib.hid ((gform_some hpos).1 HG.out).2.2.2
      have hb := (Below.refl w.heap.size w).alloc (Nat.le_refl _) (.cells #[.int .i64 l, .slice (some ⟨b', o', none⟩) f.len c] 68)
      have hx : Boxes (w.alloc (.cells #[.int .i64 l, .slice (some ⟨b', o', none⟩) f.len c] 68)) w.heap.size 68 #[.int .i64 l, .slice (some ⟨b', o', none⟩) f.len c] := World.alloc_heap_new _ _
      have hs1 : (w.alloc (.cells #[.int .i64 l, .slice (some ⟨b', o', none⟩) f.len c] 68)).heap.size = w.heap.size + 1 := by simp
      have HX := Lib.hid hx
      have HB := Lib.hid hb
      have HS1 := Lib.hid hs1
      have HRL := Lib.hid (Fo.re_len F f)
      have HRE := Lib.hid (fun i (hi : i < f.len) => Fo.re_get F f hi)
      obtain ⟨i1, ji, jz0, jz1, jz2⟩ := info_parts Try.infoNode
      clear hne h4 hb' hb hx hs1
      go_enter Try.func31, Try.ntmps31
      go_wp2_with (at_make; refine wpList_make_own _ rfl _ _ 66 rfl (w.heap.size + 1) 49 i1 .nilIface 1 Try.underlying66 ji jz0 jz1 _ _ _ f.len rfl rfl rfl (by rw [jz2]; omega) (by unfold maxLen; omega) (by have := HS1.out; omega) ?_; intro w3 hown hgrow; have hx3 := HX.out.grownN hgrow (by simp); have x30 := hx3.n0; have x31 := hx3.n1; have x3l := hx3.lt)
      have HX3 := Lib.hid hx3
      have HO3 := Lib.hid hown
      have HB3 := Lib.hid (HB.out.grown hgrow (by have := HS1.out; omega) (fun q hq => by cases hq))
      clear hx3 hown hgrow x30 x31 x3l HX HB
      go_loopw [6, 8, 24] (fun q6 _ i wr => ∃ (k : Nat) (xa : Option Addr) (xc : Nat) (xs : List Value), k ≤ f.len ∧ i = .int .i64 k ∧ q6 = .slice xa k xc ∧ Boxes wr w.heap.size 68 #[.int .i64 l, .slice (some ⟨b', o', none⟩) f.len c] ∧ wr.ownsRow (w.heap.size + 1) 49 1 (.slice xa k xc) k xs ∧ NVs wr (fun q => (ok q ∨ w.heap.size ≤ q) ∧ ∀ a, xa = some a → q ≠ a.block) (f.re F) k xs ∧ Below w.heap.size w wr)
        (fun _ _ i _ => f.len - (intOf i).toNat)
      case atStart => exact ⟨0, _, f.len, [], Nat.zero_le _, rfl, rfl, HX3.out, by have := HO3.out; simp only [World.size_alloc] at this; exact this, fun j hj => absurd hj (Nat.not_lt_zero _), HB3.out⟩
      case round =>
        obtain ⟨k, xa, xc, xs, hk, rfl, rfl, hx, hown, hnv, hb⟩ := hrel
        have HX := Lib.hid hx
        have HO := Lib.hid hown
        have HNV := Lib.hid hnv
        have HB := Lib.hid hb
        have c0 := hx.n0
        have c1 := hx.n1
        have cl0 := hx.lt
        have hsz := hb.size
        clear hx hown hnv hb HX3 HO3 HB3
        by_cases hlt : k < f.len
        · obtain ⟨u, h1, h2⟩ := HNA.out.get hlt
          have d0 := cell_step HB.out h1
          obtain ⟨ut, ux, rfl⟩ := h2.form
          have hs := f.k_size hlt
          have hxl : xs.length = k := by have := HO.out.1; omega
          obtain ⟨e1, e2, e3⟩ := HRE.out k hlt
          have HSN := Lib.hid (show ∀ (W : World) (ok : Nat → Prop) (v : Value), NVs W ok (f.re F) k xs → NV W ok (F (f.hAt k) (f.lAt k) ((f.kAt k).re F)).1 (F (f.hAt k) (f.lAt k) ((f.kAt k).re F)).2.1 (F (f.hAt k) (f.lAt k) ((f.kAt k).re F)).2.2 v → NVs W ok (f.re F) (k + 1) (xs ++ [v]) from fun W ok v q1 q2 => q1.snoc hxl (by rw [e1, e2, e3]; exact q2))
          have HGF := Lib.hid (Fo.form_get HF.out hlt)
          have HNC := Lib.hid (h2.step HB.out)
          have hi0 : (k : Int) < (f.len : Int) := by omega
          have HRK := Lib.hid (show ∀ g : Fo, g.size ≤ (f.kAt k).size → (g.re F).size ≤ 1048576 from fun g hg => HRS.out g (by omega))
          clear h1 h2 e1 e2 e3 hxl
          generalize f.hAt k = gh at *
          generalize f.lAt k = gl at *
          generalize f.kAt k = gk at *
          go_wp2_with (first | (go_at_call 31; refine (HIH.out gk (by omega) (by omega) (fun q => ok q ∧ q < w.heap.size) n gh gl fid cl cr F ut ux W0 wr hn HFO.out HRK.out HGF.out HNC.out ⟨hE, HM.out⟩ (HB0.out.trans (HB.out.mono HB0.out.size))).mono ?_; rintro e w8 ⟨⟨nt, nx, rfl, hnv8⟩, hb8⟩; have HNV8 := Lib.hid hnv8; have HB8 := Lib.hid hb8; have h38 : wr.heap.size ≤ w8.heap.size := hb8.size; have HX8 := Lib.hid (HX.out.step hb8); have HO8 := Lib.hid (row_step HO.out hb8); have HN8 := Lib.hid (HNV.out.step hb8); have z0 := HX8.out.n0; have z1 := HX8.out.n1; have zl := HX8.out.lt) | (at_builtin; refine wpList_append_own_at _ rfl _ _ 66 rfl (w.heap.size + 1) 49 i1 .nilIface 1 16 Try.underlying66 ji jz0 jz1 jz2 rfl (by decide) (.slice xa k xc) k xs rfl (World.ownsRow.alloc HO8.out _) ⟨w8.heap.size, 0, none⟩ 1 1 [.iface nt nx] rfl rfl (cell_one_new _ _ _) (by simp [Value.oneCell']) (by unfold maxLen; omega) (by omega) (by simp; omega) ?_; intro v' w9 hown9 hgrow9 _ hat9))
          have hcell9 : ∀ b o u, (b < w8.heap.size ∧ ∀ a, xa = some a → b ≠ a.block) → w8.cell? ⟨b, o, none⟩ = some u → w9.cell? ⟨b, o, none⟩ = some u := fun b o u q hc => cell_grownN hgrow9 (fun e => by
            cases xa with
            | none => simp [Value.ownBlock] at e
            | some a => simp [Value.ownBlock] at e; exact q.2 a rfl e.symm) (cell_step ((Below.refl _ _).alloc (Nat.le_refl _) _) hc)
          obtain ⟨xa', xc', rfl⟩ := rowForm hown9
          have hx9 := (HX8.out.step ((Below.refl _ _).alloc (Nat.le_refl _) (.cells #[.iface nt nx] 49))).grownN hgrow9 (row_geN HO8.out (Nat.lt_succ_self _))
          have hg9 : ∀ a', xa' = some a' → (∃ a, xa = some a ∧ a.block = a'.block) ∨ w8.heap.size ≤ a'.block := fun a' e => by
            subst e
            rcases hat9 with q | q
            · cases xa with
              | none => simp [Value.ownBlock] at q
              | some a => simp [Value.ownBlock] at q; exact .inl ⟨a, rfl, q.symm⟩
            · simp [Value.ownBlock] at q; right; omega
          have HN9 := Lib.hid (show NVs w9 (fun q => (ok q ∨ w.heap.size ≤ q) ∧ ∀ a, xa' = some a → q ≠ a.block) (f.re F) (k + 1) (xs ++ [.iface nt nx]) from by
            have hxo : ∀ a, xa = some a → a.block < wr.heap.size ∧ w.heap.size + 1 ≤ a.block := fun a e => by have := ownN_lt HO.out (b := a.block) (by rw [e]; rfl); exact ⟨this.2, this.1⟩
            refine HSN.out _ _ _ ?_ ?_
            · refine HN8.out.map fun b o u q hc => ?_
              have hbl := World.block_lt_of_cell? _ _ hc
              simp only at hbl
              refine ⟨⟨q.1, fun a e => ?_⟩, hcell9 b o u ⟨hbl, q.2⟩ hc⟩
              rcases hg9 a e with ⟨a2, e1, e2⟩ | e2
              · rw [← e2]; exact q.2 a2 e1
              · omega
            · refine HNV8.out.map fun b o u q hc => ?_
              have hbl := World.block_lt_of_cell? _ _ hc
              simp only at hbl
              have hbn : ∀ a, xa = some a → b ≠ a.block := fun a e => by
                have := hxo a e
                rcases q with q | q
                · omega
                · omega
              refine ⟨⟨?_, fun a e => ?_⟩, hcell9 b o u ⟨hbl, hbn⟩ hc⟩
              · rcases q with q | q
                · exact .inl q.1
                · exact .inr (by omega)
              · rcases hg9 a e with ⟨a2, e1, e2⟩ | e2
                · rw [← e2]; exact hbn a2 e1
                · omega)
          have HX9 := Lib.hid hx9
          have HO9 := Lib.hid hown9
          have HB9 := Lib.hid (((HB.out.trans (HB8.out.mono HB.out.size)).alloc (by omega) (.cells #[.iface nt nx] 49)).grown hgrow9 (by simp; omega) (fun q hq => by have := ownN_lt HO8.out hq; omega))
          clear hx9 hown9 hgrow9 hat9 hcell9 hg9 z0 z1 zl d0 c0 c1 cl0
          go_wp2_with fail
          go_roundw
          case rel => exact ⟨k + 1, xa', xc', xs ++ [.iface nt nx], by omega, by go_num, rfl, HX9.out, HO9.out, HN9.out, HB9.out⟩
          case measure => simp [intOf]; omega
        · have HE2 := Lib.hid (show k = f.len by omega)
          have HFN := Lib.hid (show NV wr (fun q => ok q ∨ w.heap.size ≤ q) h l (f.re F) (.iface 68 (.agg #[.int .i64 l, .slice xa k xc])) from by
            rcases HO.out.2 with ⟨hv, hn⟩ | ⟨g, cap, cur, hv, hgb, _⟩
            · have := HPOS.out; have := HE2.out; omega
            · cases hv
              refine .inr ⟨fun e => ?_, g, 0, xc, by rw [HE2.out, HRL.out], .inr (by omega), NAt.of fun i hi => ?_⟩
              · have := Fo.re_nil e; have h2 := HPOS.out; rw [this] at h2; exact absurd h2 (Nat.not_lt_zero _)
              · rw [HRL.out] at hi
                have hE2 := HE2.out
                obtain ⟨v, h1, h2⟩ := HNV.out i (by omega)
                exact ⟨v, by rw [Nat.zero_add, World.ownsRow.cellAt HO.out i (by omega)]; exact h1, h2.mono fun b q => q.1⟩)
          go_wp2_with fail
          refine (HM.out wr (fun q => ok q ∨ w.heap.size ≤ q) h l (f.re F) _ _ (HB0.out.trans (HB.out.mono HB0.out.size)) (HRS.out f (Nat.le_refl _)) HRG.out HFN.out).mono ?_
          rintro e w9 ⟨⟨nt, nx, rfl, hn9⟩, hb9⟩
          have HN9 := Lib.hid (hn9.mono (ok' := fun b => ok b ∨ w.heap.size ≤ b) fun b q => by rcases q with q | q; exact q; exact .inr (Nat.le_trans hsz q))
          have HB9 := Lib.hid (HB.out.trans (hb9.mono hsz))
          clear hn9 hb9 c0 c1 cl0
          go_wp2_with fail
          go_ret
          exact ⟨⟨nt, nx, rfl, HN9.out⟩, HB9.out⟩
end Go.Proofs.Ytjhggglaglpgfaa
