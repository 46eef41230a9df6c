/-
  PlayHeard returns true for every tip, every slice of points and all numbers that say how much sharper the other tips are, how far the disc runs early or late, and where: what a tip between a blunt and a sharp one reads, however early or late within the wow, lies in what can be heard; with a greater wow more can be heard; with a wow of 0 and one tip it is what this tip reads. No condition.
-/
import Derived.Test.YtjdnpgilinfkgaaRows
import Derived.Test.YtjdnpgilinfkgaaHF
import Derived.Test.YtjdnpgilinfkgaaPL
import Derived.Test.YtjdnpgilinfkgaaP3
import Derived.Test.YtjdnpgilinfkgaaP7
import Derived.ProofKit
namespace Go.Proofs.Ytjdnpgilinfkgaa
open Go.ChangeShapes Go.WideShapes Go.ChangeAt Go.RowKit Go.Deep

set_option maxRecDepth 100000 in
set_option maxHeartbeats 2000000 in
theorem heard_lifted (os : Os) (started : os.Started) (H : Type) (enc : TypeId × Value → H) :
    ReturnsInHanded {} Try.checked os 8 .any (Rows.playHeardSpec.pre6 enc Try.prog Try.f8 Rows.playHeardRow.domain false) (Rows.playHeardSpec.post enc Try.prog Try.f8 false true false false) := by
  refine returnsInHanded_of_change (C := Try.checked) own_ started (by kernel_rfl) Try.func8
    (ChangeSpec.witness6 (enc := enc) (C := Try.checked) false ⟨#[], #[.agg #[.slice none 0 0], .slice none 0 0, .slice none 0 0, .slice none 0 0, .agg #[.int .u8 0, .int .u8 0], .int .u8 0, .slice none 0 0], []⟩ 8 (by kernel_rfl) (by kernel_rfl) (by kernel_rfl) (by kernel_rfl)) ?_
  intro W base args ds gs before hval0 hW hcnd _
  have hval : ∀ (j : Nat) t v, Try.f8.params[j]? = some t → args[j]? = some v → Value.okWide Try.prog W .any base t v := hval0
  have hW' := hW
  obtain ⟨p, q, hA0, hV, rfl, hfz, hnd⟩ := hW
  have hA : DataW.TrodAll enc Try.prog W 0 (fun _ => true) true Try.f8.params.toList args.toList ds p := hA0
  rw [Try.params8] at hA hval
  obtain ⟨v0, v1, v2, v3, v4, v5, v6, d0, d1, d2, d3, d4, d5, d6, p0, p1, p2, p3, p4, p5, p6, rfl, rfl, rfl, h0, h1, h2, h3, h4, h5, h6⟩ := trodAll_seven hA
  obtain ⟨rfl, rfl⟩ := trodVars_none hV
  have g0 := h0
  have g1 := h1
  have g2 := h2
  have g3 := h3
  have g4 := h4
  have g5 := h5
  have g6 := h6
  obtain ⟨A0, n0, k0, l0, rfl, r0, m0, u0, i0⟩ := open_tip h0 (hval 0 24 v0 rfl rfl)
  obtain ⟨A1, n1, k1, l1, rfl, r1, m1, i1, u1⟩ := open_pts h1 (hval 1 32 v1 rfl rfl)
  obtain ⟨A2, n2, k2, l2, rfl, r2, m2, u2⟩ := open_u8s h2 (hval 2 60 v2 rfl rfl)
  obtain ⟨A3, n3, k3, l3, rfl, r3, m3, u3⟩ := open_u8s h3 (hval 3 60 v3 rfl rfl)
  obtain ⟨b4_0, b4_1, rfl, y4⟩ := open_u8_2 h4 (hval 4 61 v4 rfl rfl)
  obtain ⟨x5, rfl, -, -, w5⟩ := open_int Try.underlying5 (hval 5 5 v5 rfl rfl) h5
  have w5 := bounds_u8 w5
  obtain ⟨A6, n6, k6, l6, rfl, r6, m6, u6⟩ := open_i8s h6 (hval 6 62 v6 rfl rfl)
  clear hA0 hval0
  simp only [List.append_nil] at hW'
  have z0 : ∀ x ∈ p0, x.block < W.heap.size := fun x hx => hW'.lt x (by simp [hx])
  have z1 : ∀ x ∈ p1, x.block < W.heap.size := fun x hx => hW'.lt x (by simp [hx])
  have z2 : ∀ x ∈ p2, x.block < W.heap.size := fun x hx => hW'.lt x (by simp [hx])
  have z3 : ∀ x ∈ p3, x.block < W.heap.size := fun x hx => hW'.lt x (by simp [hx])
  have z4 : ∀ x ∈ p4, x.block < W.heap.size := fun x hx => hW'.lt x (by simp [hx])
  have z5 : ∀ x ∈ p5, x.block < W.heap.size := fun x hx => hW'.lt x (by simp [hx])
  have z6 : ∀ x ∈ p6, x.block < W.heap.size := fun x hx => hW'.lt x (by simp [hx])
  refine (heard_walk _ A0 A1 A2 A3 A6 n0 k0 n1 k1 n2 k2 n3 k3 n6 k6 l0 l1 l2 l3 l6 b4_0 b4_1 x5 W r0 r1 r2 r3 r6 (Nat.le_refl _) m0 m1 m2 m3 m6 ⟨y4.1, y4.2.1⟩ ⟨y4.2.2.1, y4.2.2.2⟩ w5).mono fun e W' ⟨he, hb⟩ => ?_
  subst he
  exact ⟨_, rfl, post_of_below_ (pa := p0 ++ (p1 ++ (p2 ++ (p3 ++ (p4 ++ (p5 ++ (p6))))))) (pv := []) hW' (fun _ _ _ => trodAll_mk1 (shut_bool Try.underlying4 _))
    (fun sp hsp => trodAll_mk7 (WideElems.Trod_stays laid_out (by kernel_rfl) (of_decide_eq_true (by kernel_rfl)) g0 (fun x hx => hb.same (z0 x hx)) (fun x hx => hsp x (by simp [hx]))) (WideElems.Trod_stays laid_out (by kernel_rfl) (of_decide_eq_true (by kernel_rfl)) g1 (fun x hx => hb.same (z1 x hx)) (fun x hx => hsp x (by simp [hx]))) (WideElems.Trod_stays laid_out (by kernel_rfl) (of_decide_eq_true (by kernel_rfl)) g2 (fun x hx => hb.same (z2 x hx)) (fun x hx => hsp x (by simp [hx]))) (WideElems.Trod_stays laid_out (by kernel_rfl) (of_decide_eq_true (by kernel_rfl)) g3 (fun x hx => hb.same (z3 x hx)) (fun x hx => hsp x (by simp [hx]))) (WideElems.Trod_stays laid_out (by kernel_rfl) (of_decide_eq_true (by kernel_rfl)) g4 (fun x hx => hb.same (z4 x hx)) (fun x hx => hsp x (by simp [hx]))) (WideElems.Trod_stays laid_out (by kernel_rfl) (of_decide_eq_true (by kernel_rfl)) g5 (fun x hx => hb.same (z5 x hx)) (fun x hx => hsp x (by simp [hx]))) (WideElems.Trod_stays laid_out (by kernel_rfl) (of_decide_eq_true (by kernel_rfl)) g6 (fun x hx => hb.same (z6 x hx)) (fun x hx => hsp x (by simp [hx])))) (fun _ _ => rfl) (by simp) hb (ok_one (by kernel_rfl) rfl (okWide_bool_mk Try.underlying4 _))⟩

theorem heard_holds : Rows.PlayHeardSaid :=
  OpenClaim.holds_of_wide 8 Try.f8 rfl rfl rfl rfl rfl rfl rfl ⟨rfl, rfl, rfl, rfl, rfl⟩ rfl rfl rfl rfl rfl (by kernel_rfl) Try.func8 (by kernel_rfl)
    (of_decide_eq_true (by kernel_rfl)) (by unfold Func.isWrapper; first | (rw [if_pos (by decide +kernel)]; kernel_rfl) | (rw [if_neg (by decide +kernel)]; exact ⟨rfl, rfl⟩))
    (fun os started H enc _ => heard_lifted os started H enc)

#print axioms heard_holds
end Go.Proofs.Ytjdnpgilinfkgaa
