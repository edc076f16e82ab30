/- The walk of 'laws.FnExactDealShares', from what the two functions give. -/
import Derived.Test.YtgndekojodpmkaaDoorDs
import Derived.Test.YtgndekojodpmkaaDoorMk2
import Derived.Deep.RegionHeld3
import Derived.Deep.CutRange
namespace Go.Proofs.YtgndekojodpmkaaDoor
open Go.ChangeShapes Go.WideShapes Go.ChangeAt Go.RowKit Go.Deep
set_option linter.unusedVariables false
namespace DealShares

/-- What is carried over the second half. -/
structure Carry (v4 : World) (g1 : Nat) (z1 : List Int) (g2 : Nat) (z2 : List Int) (bs : Nat) (ag : Option Addr) (cg : Nat) (rn : Nat) (rl : List Int) (W : World) : Prop where
  e : Below v4.heap.size v4 W
  x1 : OwnI W g1 (.slice (some ⟨g1, 0, none⟩) z1.length z1.length) z1
  x2 : OwnI W g2 (.slice (some ⟨g2, 0, none⟩) z2.length z2.length) z2
  g : OwnSh W bs (.slice ag rn cg) rn rl

theorem Carry.step {v4 : World} {g1 : Nat} {z1 : List Int} {g2 : Nat} {z2 : List Int} {bs : Nat} {ag : Option Addr} {cg : Nat} {rn : Nat} {rl : List Int} {W W' : World} (hb : Below W.heap.size W W') (k : Carry v4 g1 z1 g2 z2 bs ag cg rn rl W) : Carry v4 g1 z1 g2 z2 bs ag cg rn rl W' := ⟨chain k.e hb, k.x1.step hb, k.x2.step hb, k.g.step hb⟩


set_option maxHeartbeats 4000000 in
set_option maxRecDepth 100000 in
theorem law_of (x0 : Int) (a1 : Option Addr) (z1 : List Int) (c1 : Nat) (a2 : Option Addr) (z2 : List Int) (c2 : Nat) (rn : Nat) (rl : List Int) (rc : Int) (w : World) (wf0 : (Lit.int .i64 x0).wf = true) (hr1 : Ints w a1 z1) (hl1 : z1.length ≤ 9223372036854775807) (hr2 : Ints w a2 z2) (hl2 : z2.length ≤ 9223372036854775807)
    (GL : World → Prop) (hgl : ∀ W : World, Below w.heap.size w W → GL W)
    (hS : ∀ (b1 : Option Addr) (d1 : Nat) (b2 : Option Addr) (d2 : Nat) (W : World), Ints W b1 z1 → z1.length ≤ 1048576 → Ints W b2 z2 → z2.length ≤ 1048576 → Calls Tryd.prog 29 #[.int .i64 x0, .slice b1 z1.length d1, .slice b2 z2.length d2] W (GivesShCode W rn rl rc))
    (hI : ∀ (b1 : Option Addr) (d1 : Nat) (b2 : Option Addr) (d2 : Nat) (W : World), GL W → Ints W b1 z1 → z1.length ≤ 1048576 → Ints W b2 z2 → z2.length ≤ 1048576 → Calls Tryd.prog 30 #[.int .i64 x0, .slice b1 z1.length d1, .slice b2 z2.length d2] W (GivesShCode W rn rl rc))
    (hrn : rl.length = rn * 2) (hsm : rn ≤ 1048576) :
    Calls Tryd.prog 8 #[.int .i64 x0, .slice a1 z1.length c1, .slice a2 z2.length c2] w fun e w' => e = .returned (.bool true) ∧ Below w.heap.size w w' := by
  have HSP := Lib.hid hS
  have HIM := Lib.hid hI
  clear hS hI
  have HGL := Lib.hid hgl
  clear hgl
  by_cases hbig1 : 1048576 < z1.length
  · have t1 : (1048576 : Int) < (z1.length : Int) := by omega
    go_enter Tryd.func8, Tryd.ntmps8
    go_wp2_with fail
    go_ret
    exact ⟨rfl, by first | exact Below.refl _ _ | go_grown⟩
  have hs1 : z1.length ≤ 1048576 := by omega
  clear hbig1
  by_cases hbig2 : 1048576 < z2.length
  · have t1 : (1048576 : Int) < (z2.length : Int) := by omega
    go_enter Tryd.func8, Tryd.ntmps8
    go_wp2_with fail
    go_ret
    exact ⟨rfl, by first | exact Below.refl _ _ | go_grown⟩
  have hs2 : z2.length ≤ 1048576 := by omega
  clear hbig2
  have D := Lib.hid (Below.refl w.heap.size w)
  have R1 := Lib.hid hr1
  clear hr1
  have R2 := Lib.hid hr2
  clear hr2
  go_enter Tryd.func8, Tryd.ntmps8
  go_wp2_with fail
  skip
  refine (toInt64S_any a1 z1 c1 _ R1.out hs1).mono ?_
  rintro e w1 ⟨rfl, hz, hrow, hb⟩
  replace D := Lib.hid (chain D.out hb)
  replace R1 := Lib.hid (R1.out.step hb)
  replace R2 := Lib.hid (R2.out.step hb)
  have M1 := Lib.hid (Ints.of_row hrow)
  clear hb hrow hz
  go_wp2_with fail
  refine (toInt64S_any a2 z2 c2 _ R2.out hs2).mono ?_
  rintro e w2 ⟨rfl, hz, hrow, hb⟩
  replace D := Lib.hid (chain D.out hb)
  replace R1 := Lib.hid (R1.out.step hb)
  replace R2 := Lib.hid (R2.out.step hb)
  replace M1 := Lib.hid (M1.out.step hb)
  have M2 := Lib.hid (Ints.of_row hrow)
  clear hb hrow hz
  go_wp2_with fail
  refine (HSP.out _ _ _ _ _ M1.out hs1 M2.out hs2).mono ?_
  rintro e w3 ⟨⟨v0, rfl, hv⟩, hb⟩
  obtain ⟨a, c, rfl, hw0, _⟩ := hv.ints
  replace D := Lib.hid (chain D.out hb)
  replace R1 := Lib.hid (R1.out.step hb)
  replace R2 := Lib.hid (R2.out.step hb)
  have W0 := Lib.hid hw0
  clear hb hw0 hv M1 M2
  go_wp2_with fail
  generalize w3 = v4 at *
  have E := Lib.hid (Below.refl v4.heap.size v4)
  refine (toInt64S_any a1 z1 c1 _ (R1.out.step E.out) hs1).mono ?_
  rintro e w4 ⟨rfl, hz, hrow, hb⟩
  obtain ⟨g1, hg1⟩ : ∃ g, v4.heap.size = g := ⟨_, rfl⟩
  rw [hg1] at hrow hz ⊢
  have hlo : v4.heap.size ≤ g1 := by omega
  replace E := Lib.hid (chain E.out hb)
  have X1 := Lib.hid (own_of_row hrow (by unfold maxLen; omega))
  have G1 := Lib.hid (show v4.heap.size ≤ g1 ∧ g1 + 1 ≤ w4.heap.size from ⟨hlo, by omega⟩)
  clear hb hrow hz hg1 hlo
  go_wp2_with fail
  refine (toInt64S_any a2 z2 c2 _ (R2.out.step E.out) hs2).mono ?_
  rintro e w5 ⟨rfl, hz, hrow, hb⟩
  obtain ⟨g2, hg2⟩ : ∃ g, w4.heap.size = g := ⟨_, rfl⟩
  rw [hg2] at hrow hz ⊢
  have hlo : v4.heap.size ≤ g2 := by have := G1.out; omega
  replace E := Lib.hid (chain E.out hb)
  replace X1 := Lib.hid (X1.out.step hb)
  have X2 := Lib.hid (own_of_row hrow (by unfold maxLen; omega))
  have G2 := Lib.hid (show v4.heap.size ≤ g2 ∧ g2 + 1 ≤ w5.heap.size from ⟨hlo, by omega⟩)
  have GG2 := Lib.hid (show g1 + 1 ≤ g2 by have := G1.out; omega)
  clear hb hrow hz hg2 hlo
  go_wp2_with fail
  refine (HIM.out _ _ _ _ w5 (HGL.out _ (chain D.out E.out)) (Ints_of_own X1.out) hs1 (Ints_of_own X2.out) hs2).mono ?_
  rintro e w6 ⟨⟨vg, rfl, hown⟩, hb⟩
  obtain ⟨ag, cg, rfl⟩ := hown.form
  obtain ⟨bs, hbs⟩ : ∃ b, w5.heap.size = b := ⟨_, rfl⟩
  have HBS := Lib.hid (show v4.heap.size ≤ bs by have := G2.out; omega)
  have HQ := Lib.hid (show bs ≤ w6.heap.size by have := hb.size; omega)
  replace E := Lib.hid (chain E.out hb)
  replace X1 := Lib.hid (X1.out.step hb)
  replace X2 := Lib.hid (X2.out.step hb)
  rw [hbs] at hown
  rw [hbs] at G2
  have G := Lib.hid hown
  clear hb hown hbs
  go_wp2_with fail
  refine (eqShareS_same ag a rn rl cg c _ (Ints_of_sh G.out) (W0.out.step E.out) hrn (by omega)).mono ?_
  rintro e w7 ⟨rfl, hb⟩
  replace E := Lib.hid (chain E.out hb)
  replace X1 := Lib.hid (X1.out.step hb)
  replace X2 := Lib.hid (X2.out.step hb)
  replace G := Lib.hid (G.out.step hb)
  clear hb
  go_wp2_with fail
  refine (toInt64S_any a1 z1 c1 _ (R1.out.step E.out) hs1).mono ?_
  rintro e w8 ⟨rfl, hz, hrow, hb⟩
  replace E := Lib.hid (chain E.out hb)
  replace X1 := Lib.hid (X1.out.step hb)
  replace X2 := Lib.hid (X2.out.step hb)
  replace G := Lib.hid (G.out.step hb)
  have Y := Lib.hid (Ints.of_row hrow)
  clear hb hrow hz
  go_wp2_with fail
  refine (eqInt64S_same _ _ z1 _ _ _ (Ints_of_own X1.out) Y.out (by omega)).mono ?_
  rintro e w9 ⟨rfl, hq⟩
  have hb := quiet_below hq
  replace E := Lib.hid (chain E.out hb)
  replace X1 := Lib.hid (X1.out.step hb)
  replace X2 := Lib.hid (X2.out.step hb)
  replace G := Lib.hid (G.out.step hb)
  clear hb hq Y
  go_wp2_with fail
  refine (toInt64S_any a2 z2 c2 _ (R2.out.step E.out) hs2).mono ?_
  rintro e w10 ⟨rfl, hz, hrow, hb⟩
  replace E := Lib.hid (chain E.out hb)
  replace X1 := Lib.hid (X1.out.step hb)
  replace X2 := Lib.hid (X2.out.step hb)
  replace G := Lib.hid (G.out.step hb)
  have Y := Lib.hid (Ints.of_row hrow)
  clear hb hrow hz
  go_wp2_with fail
  refine (eqInt64S_same _ _ z2 _ _ _ (Ints_of_own X2.out) Y.out (by omega)).mono ?_
  rintro e w11 ⟨rfl, hq⟩
  have hb := quiet_below hq
  replace E := Lib.hid (chain E.out hb)
  replace X1 := Lib.hid (X1.out.step hb)
  replace X2 := Lib.hid (X2.out.step hb)
  replace G := Lib.hid (G.out.step hb)
  clear hb hq Y
  go_wp2_with fail
  refine (markInt64S_any _ z1 g1 1 _ X1.out (by omega) (by omega) (by omega)).mono ?_
  rintro e w12 ⟨rfl, hown, hsz, hgr⟩
  have ht : Touch g1 (g1 + 1) _ w12 := Touch.of_grown hgr (fun q hq => by simp [Value.ownBlock] at hq; omega)
  have hgl := Nat.le_of_lt (X1.out.lt rfl).2
  clear hown hgr hsz
  replace E := Lib.hid (E.out.trans (ht.below G1.out.1 hgl))
  have hhi : g1 + 1 ≤ bs := by have := G2.out.2; have := GG2.out; omega
  replace G := Lib.hid (ht.ownSh G.out hhi)
  replace X2 := Lib.hid (ht.own X2.out GG2.out)
  clear ht hgl hhi
  clear X1
  go_wp2_with fail
  refine (markInt64S_any _ z2 g2 (1 + z1.length) _ X2.out (by omega) (by omega) (by omega)).mono ?_
  rintro e w13 ⟨rfl, hown, hsz, hgr⟩
  have ht : Touch g2 (g2 + 1) _ w13 := Touch.of_grown hgr (fun q hq => by simp [Value.ownBlock] at hq; omega)
  have hgl := Nat.le_of_lt (X2.out.lt rfl).2
  clear hown hgr hsz
  replace E := Lib.hid (E.out.trans (ht.below G2.out.1 hgl))
  have hhi : g2 + 1 ≤ bs := by have := G2.out.2; omega
  replace G := Lib.hid (ht.ownSh G.out hhi)
  clear ht hgl hhi
  clear X2
  go_wp2_with fail
  refine (eqShareS_same ag a rn rl cg c _ (Ints_of_sh G.out) (W0.out.step E.out) hrn (by omega)).mono ?_
  rintro e w14 ⟨rfl, hb⟩
  replace E := Lib.hid (chain E.out hb)
  replace G := Lib.hid (G.out.step hb)
  clear hb
  go_wp2_with fail
  refine (markShareS_any _ rn rl bs 1 _ G.out (by omega) (by omega) (by omega)).mono ?_
  rintro e w15 ⟨rfl, hown, hsz, hgr⟩
  replace E := Lib.hid (E.out.grown hgr E.out.size (fun q hq => Nat.le_trans HBS.out (G.out.lt hq).1))
  replace G := Lib.hid hown
  clear hown hsz hgr
  have t2 : ((1 : Int) + ((rn * 2 : Nat) : Int) != (1 : Int) + ((rn * 2 : Nat) : Int)) = false := by simp
  go_wp2_with fail
  refine (heldShareS_any ag rn cg 1 _ (Ints_of_sh G.out) (by omega) (by omega) (by omega)).mono ?_
  rintro e w16 ⟨rfl, rfl⟩
  go_wp2_with fail
  refine (toInt64S_any a1 z1 c1 _ (R1.out.step E.out) hs1).mono ?_
  rintro e w17 ⟨rfl, hz, hrow, hb⟩
  replace E := Lib.hid (chain E.out hb)
  replace G := Lib.hid (G.out.step hb)
  have M1 := Lib.hid (Ints.of_row hrow)
  clear hb hrow hz
  go_wp2_with fail
  refine (toInt64S_any a2 z2 c2 _ (R2.out.step E.out) hs2).mono ?_
  rintro e w18 ⟨rfl, hz, hrow, hb⟩
  replace E := Lib.hid (chain E.out hb)
  replace G := Lib.hid (G.out.step hb)
  replace M1 := Lib.hid (M1.out.step hb)
  have M2 := Lib.hid (Ints.of_row hrow)
  clear hb hrow hz
  go_wp2_with fail
  refine (HIM.out _ _ _ _ _ (HGL.out _ (chain D.out E.out)) M1.out hs1 M2.out hs2).mono ?_
  rintro e w19 ⟨⟨vh, rfl, hown⟩, hb⟩
  obtain ⟨ah, ch, rfl⟩ := hown.form
  replace E := Lib.hid (chain E.out hb)
  replace G := Lib.hid (G.out.step hb)
  have H := Lib.hid hown
  clear hb hown M1 M2
  go_wp2_with fail
  refine (eqShareS_same ah a rn rl ch c _ (Ints_of_sh H.out) (W0.out.step E.out) hrn (by omega)).mono ?_
  rintro e w20 ⟨rfl, hb⟩
  replace E := Lib.hid (chain E.out hb)
  replace G := Lib.hid (G.out.step hb)
  replace H := Lib.hid (H.out.step hb)
  clear hb
  clear H
  go_wp2_with fail
  refine (heldShareS_any ag rn cg 1 _ (Ints_of_sh G.out) (by omega) (by omega) (by omega)).mono ?_
  rintro e w21 ⟨rfl, rfl⟩
  go_wp2_with fail
  go_ret
  exact ⟨rfl, D.out.trans (E.out.mono D.out.size)⟩
end DealShares
end Go.Proofs.YtgndekojodpmkaaDoor
