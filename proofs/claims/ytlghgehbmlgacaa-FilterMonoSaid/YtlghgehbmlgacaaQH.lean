/-
  Middles and sides: filter.split.
-/
import Derived.Test.YtlghgehbmlgacaaQF
import Derived.Test.YtlghgehbmlgacaaUU
import Derived.Test.YtlghgehbmlgacaaW2
import Derived.Deep.RegionLaw
import Derived.Sort.AtCall
namespace Go.Proofs.Ytlghgehbmlgacaa
open Go.RowKit

/-- Two rows of numbers that a call has made, apart from each other. -/
structure TR (V W : World) (sx : Value) (nx : Nat) (xs : List Int) (sy : Value) (ny : Nat) (ys : List Int) : Prop where
  ox : W.ownsRow V.heap.size 2 1 sx nx (nums xs)
  oy : W.ownsRow V.heap.size 2 1 sy ny (nums ys)
  ne : ∀ g, sx.ownBlock = some g → sy.ownBlock ≠ some g
  b : Below V.heap.size V W
section
variable {V W W' : World} {sx sy sx' sy' : Value} {nx ny n' : Nat} {xs ys zs : List Int}
theorem TR.start (V : World) : TR V V (.slice none 0 0) 0 [] (.slice none 0 0) 0 [] := ⟨World.ownsRow_nil _ _ _ _, World.ownsRow_nil _ _ _ _, fun g h => by simp [Value.ownBlock] at h, Below.refl _ _⟩
theorem TR.al (h : TR V W sx nx xs sy ny ys) (o : Obj) : TR V (W.alloc o) sx nx xs sy ny ys := ⟨h.ox.alloc _, h.oy.alloc _, h.ne, h.b.alloc h.b.size _⟩
theorem TR.dr (h : TR V W sx nx xs sy ny ys) : TR V W.drew sx nx xs sy ny ys := ⟨h.ox.drew, h.oy.drew, h.ne, h.b.drew⟩
theorem TR.below (h : TR V W sx nx xs sy ny ys) (hb : Below W.heap.size W W') : TR V W' sx nx xs sy ny ys := ⟨own_below h.ox hb, own_below h.oy hb, h.ne, h.b.trans (hb.mono h.b.size)⟩
theorem TR.setx (h : TR V W sx nx xs sy ny ys) (hg : W.grownBy W' sx.ownBlock) (ho : W'.ownsRow V.heap.size 2 1 sx' n' (nums zs)) (hb : sx'.ownBlock = sx.ownBlock ∨ sx'.ownBlock = some W.heap.size) : TR V W' sx' n' zs sy ny ys :=
  ⟨ho, h.oy.kept hg (by
      rcases e : sy.ownBlock with _ | g
      · exact .inl rfl
      · exact .inr (fun e2 => h.ne g e2.symm e)),
    fun g hg2 hy => by
      rcases hb with hb | hb
      · exact h.ne g (hb ▸ hg2) hy
      · have := (h.oy.lt g hy).2
        rw [hb] at hg2
        simp at hg2; omega,
    h.b.grown hg h.b.size fun j hj => (h.ox.lt j hj).1⟩
theorem TR.sety (h : TR V W sx nx xs sy ny ys) (hg : W.grownBy W' sy.ownBlock) (ho : W'.ownsRow V.heap.size 2 1 sy' n' (nums zs)) (hb : sy'.ownBlock = sy.ownBlock ∨ sy'.ownBlock = some W.heap.size) : TR V W' sx nx xs sy' n' zs :=
  ⟨h.ox.kept hg (by
      rcases e : sx.ownBlock with _ | g
      · exact .inl rfl
      · exact .inr (fun e2 => h.ne g e e2.symm)), ho,
    fun g hg2 hy => by
      rcases hb with hb | hb
      · exact h.ne g hg2 (hb ▸ hy)
      · have := (h.ox.lt g hg2).2
        rw [hb] at hy
        simp at hy; omega,
    h.b.grown hg h.b.size fun j hj => (h.oy.lt j hj).1⟩
end
/-- Middles and sides. -/
def spM (xs : List Smp) : List Int := xs.map fun s => s.2 + (s.1 - s.2) / 2
def spD (xs : List Smp) : List Int := xs.map fun s => s.1 - s.2
theorem spM_snoc {xs : List Smp} {j : Nat} (h : j < xs.length) : spM (xs.take (j + 1)) = spM (xs.take j) ++ [xs[j].2 + (xs[j].1 - xs[j].2) / 2] := by
  unfold spM; rw [List.take_succ_eq_append_getElem h, List.map_append]; rfl
theorem spD_snoc {xs : List Smp} {j : Nat} (h : j < xs.length) : spD (xs.take (j + 1)) = spD (xs.take j) ++ [xs[j].1 - xs[j].2] := by
  unfold spD; rw [List.take_succ_eq_append_getElem h, List.map_append]; rfl
theorem vs_bd {l r : Int} (h : vs l r = true) : (-32767 ≤ l ∧ l ≤ 32767) ∧ (-32767 ≤ r ∧ r ≤ 32767) := by
  unfold vs win at h; simp at h; omega
def SplitPost (w : World) (n : Nat) (xs : List Smp) (e : Ending) (w' : World) : Prop :=
  ∃ sx sy, e = .returned (.tuple #[sx, sy]) ∧ TR w w' sx n (spM xs) sy n (spD xs)

set_option maxRecDepth 100000 in
set_option maxHeartbeats 4000000 in
theorem split_any (B : Nat) (A : Option Addr) (n c : Nat) (xs : List Smp) (w : World) (h0 : RS w B A n xs) (hB : B ≤ w.heap.size) (hn : n ≤ 4096) (hv : vss xs = true) :
    Calls Try.prog 68 #[.slice A n c] w (SplitPost w n xs) := by
  have H := Lib.hid (h0.more hB)
  have HN := Lib.hid h0.1
  have HV := Lib.hid hv
  obtain ⟨i0, hi0, hz0, hz1, hz2⟩ := info_parts info_i64
  have HI0 := Lib.hid hi0
  have HZ0 := Lib.hid hz0
  have HZ1 := Lib.hid hz1
  have HZ2 := Lib.hid hz2
  clear h0 hB hv hi0 hz0 hz1 hz2
  go_enter Try.func68, Try.ntmps68
  go_wp2_with fail
  go_loopw [2, 3, 9] (fun vx vy i wr => ∃ (j : Nat) (sx sy : Value), j ≤ n ∧ i = .int .i64 j ∧ sx = vx ∧ sy = vy ∧ Hid (TR w wr sx j (spM (xs.take j)) sy j (spD (xs.take j)))) (fun _ _ i wr => n - (intOf i).toNat)
  case atStart => exact ⟨0, _, _, Nat.zero_le _, rfl, rfl, rfl, Lib.hid (TR.start w)⟩
  case round =>
    obtain ⟨j, sx, sy, hj, rfl, rfl, rfl, HT⟩ := hrel
    by_cases hlt : j < n
    · have hjl : j < xs.length := by have := HN.out; omega
      obtain ⟨ad, hA, hbl, h1, h2⟩ := (H.out.below HT.out.b (Nat.le_refl _)).at_ (k := j) hjl
      obtain rfl := hA
      obtain ⟨Ax, cx, rfl, -⟩ := own_readsU HT.out.ox
      obtain ⟨Ay, cy, rfl, -⟩ := own_readsU HT.out.oy
      have hbd := vs_bd (vss_at HV.out hjl)
      have HSM := Lib.hid (spM_snoc hjl)
      have HSD := Lib.hid (spD_snoc hjl)
      obtain ⟨s, hs⟩ : ∃ s, xs[j] = s := ⟨_, rfl⟩
      rw [hs] at h1 h2 hbd HSM HSD
      clear hs
      obtain ⟨l, r⟩ := s
      dsimp only at h1 h2 hbd HSM HSD
      obtain ⟨d, hd⟩ : ∃ d, l - r = d := ⟨_, rfl⟩
      obtain ⟨q, hq⟩ : ∃ q, d / 2 = q := ⟨_, rfl⟩
      rw [hd, hq] at HSM
      rw [hd] at HSD
      have e1 : IntKind.i64.wrap (l - r) = d := by rw [hd]; exact IntWalk.i64_in _ (by omega)
      have e2 : IntKind.i64.wrap (r + q) = r + q := IntWalk.i64_in _ (by omega)
      have CH := Lib.hid (fun W => by
        have h := fhalf_any d W (by omega) (by omega)
        rw [hq] at h; exact h)
      clear hd hq hbd
      have hs0 := HT.out.b.size
      obtain ⟨W1, hW1⟩ : ∃ W, wr.alloc (.cells #[.int .i64 l, .int .i64 r] 64) = W := ⟨_, rfl⟩
      have HT1 : Hid (TR w W1 (.slice Ax j cx) j (spM (xs.take j)) (.slice Ay j cy) j (spD (xs.take j))) := Lib.hid (by rw [← hW1]; exact HT.out.al _)
      have HP : Hid (Blk W1 wr.heap.size 64 #[.int .i64 l, .int .i64 r]) := Lib.hid (by rw [← hW1]; exact Blk.new _ _ _)
      go_upto_region 4 with fail
      try rw [hW1]
      clear hW1 h1 h2
      obtain ⟨gp, hgp⟩ : ∃ g, wr.heap.size = g := ⟨_, rfl⟩
      rw [hgp] at HP ⊢
      clear hgp
      have p0 : W1.cell? ⟨gp, 0, none⟩ = some (.int .i64 l) := (HP.out.cell 0).trans rfl
      have p1 : W1.cell? ⟨gp, 1, none⟩ = some (.int .i64 r) := (HP.out.cell 1).trans rfl
      have d1 : W1.drew.cell? ⟨gp, 1, none⟩ = some (.int .i64 r) := p1
      have hs1 := HT1.out.b.size
      go_wp2_with fail
      go_region_law (first | (refine step_append_any _ rfl (.tmp 18) (.tmp 24) 22 rfl w.heap.size 2 i0 _ 1 8 Try.underlying22 HI0.out HZ0.out HZ1.out HZ2.out rfl (by omega) (.slice Ax j cx) j (nums (spM (xs.take j))) rfl (HT1.out.dr.al _).ox (W1.heap.size + 1) (some ⟨W1.heap.size, 0, none⟩) 1 1 [.int .i64 (r + q)] rfl ⟨rfl, fun _ => ⟨_, rfl, Nat.lt_succ_self _, nine_new _ _ _⟩⟩ (by intro x hx; simp at hx; subst hx; rfl) (by unfold maxLen; omega) (by omega) (HT1.out.dr.al _).b.size ?_; intro vx w6 hox hgx hbx; have hox' : w6.ownsRow w.heap.size 2 1 vx (j + 1) (nums (spM (xs.take (j + 1)))) := (by rw [HSM.out, nums_snoc]; exact hox); have HT2 := Lib.hid ((HT1.out.dr.al (.cells #[.int .i64 (r + q)] 2)).setx hgx hox' hbx); obtain ⟨Ax6, cx6, rfl, -⟩ := own_readsU hox'; clear hox hox' hgx hbx) | (go_simp; go_at_call 92; refine (CH.out _).mono ?_; rintro e w_ ⟨rfl, rfl⟩))
      all_goals
        have hs2 := HT2.out.b.size
        go_wp2_with (at_builtin; refine wpList_append_any _ rfl (.tmp 26) (.tmp 28) _ rfl w.heap.size 2 i0 _ 1 8 Try.underlying22 HI0.out HZ0.out HZ1.out HZ2.out rfl (by omega) (.slice Ay j cy) j (nums (spD (xs.take j))) rfl (HT2.out.al _).oy (w6.heap.size + 1) (some ⟨w6.heap.size, 0, none⟩) 1 1 [.int .i64 d] rfl ⟨rfl, fun _ => ⟨_, rfl, Nat.lt_succ_self _, nine_new _ _ _⟩⟩ (by intro x hx; simp at hx; subst hx; rfl) (by simp only [maxLen]; omega) (by omega) (HT2.out.al _).b.size ?_)
        intro vy w7 hoy hgy hby
        have hoy' : w7.ownsRow w.heap.size 2 1 vy (j + 1) (nums (spD (xs.take (j + 1)))) := by rw [HSD.out, nums_snoc]; exact hoy
        have HT3 := Lib.hid ((HT2.out.al (.cells #[.int .i64 d] 2)).sety hgy hoy' (hby.imp id (fun h => by simpa using h)))
        clear hoy hoy' hgy hby
        go_wp2
        go_roundw
        case rel => exact ⟨j + 1, _, vy, by omega, by go_num, rfl, rfl, HT3⟩
        case measure => simp [intOf]; omega
    · obtain rfl : j = n := by omega
      have HT1 := HT.out
      rw [List.take_of_length_le (by have := HN.out; omega)] at HT1
      go_wp2
      go_ret2
      exact ⟨_, _, rfl, HT1⟩
end Go.Proofs.Ytlghgehbmlgacaa
