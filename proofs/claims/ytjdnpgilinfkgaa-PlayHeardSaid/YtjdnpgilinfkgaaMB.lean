/-
  The bends of a groove: middle, bends, and the iterator that yields them.
-/
import Derived.Test.YtjdnpgilinfkgaaM2
import Derived.Deep.RegionHeld3
namespace Go.Proofs.Ytjdnpgilinfkgaa
open Go.RowKit Go.Shelf
attribute [local go_sem] Oper.semAt_some

/-- Twice the middle of a groove at a sample. -/
def midL (l : List Smp) (u : Nat) : Int := (l[u]?.getD (0, 0)).1 + (l[u]?.getD (0, 0)).2
theorem midL_eq {l : List Smp} {u : Nat} (h : u < l.length) : midL l u = l[u].1 + l[u].2 := by unfold midL; rw [List.getElem?_eq_getElem h]; rfl
/-- The bend at a sample that is neither the first nor the last one. -/
def bdL (l : List Smp) (i : Nat) : Int := midL l (i - 1) + midL l (i + 1) - 2 * midL l i
theorem midL_bd {l : List Smp} (he : Edg l) {u : Nat} (h : u < l.length) : -8388608 ≤ midL l u ∧ midL l u ≤ 8388608 := by
  have h1 := he.1 u h
  have h2 := he.2 u h
  rw [innW_eq h] at h1
  rw [outW_eq h] at h2
  rw [midL_eq h]; omega
theorem bdL_bd {l : List Smp} (he : Edg l) {i : Nat} (h : i + 1 < l.length) : -33554432 ≤ bdL l i ∧ bdL l i ≤ 33554432 := by
  have h1 := midL_bd he (u := i - 1) (by omega)
  have h2 := midL_bd he (u := i + 1) h
  have h3 := midL_bd he (u := i) (by omega)
  unfold bdL; omega
/-- The indexes of the bends. -/
def bns (n : Nat) : List Nat := List.range' 1 (n - 2)
theorem bns_len (n : Nat) : (bns n).length = n - 2 := by unfold bns; rw [List.length_range']
theorem bns_mem {n i : Nat} : i ∈ bns n ↔ 1 ≤ i ∧ i + 1 < n := by unfold bns; rw [List.mem_range'_1]; omega
theorem bns_snoc {n j : Nat} (h : j < (bns n).length) : (bns n).take j ++ [1 + j] = (bns n).take (j + 1) := by
  rw [List.take_succ_eq_append_getElem h]
  simp [bns]
abbrev encB (b : Nat → Int) (x : Nat) : Array Value := #[.agg #[.int .i64 x, .int .i64 (b x)]]

theorem grown_none {X Y : World} (h : Below X.heap.size X Y) : X.grownBy Y none := ⟨h.os, h.tape, h.output, h.size, fun i hi _ => h.block i hi⟩
theorem cell_st {W : World} {p q : Addr} {v u : Value} (h : W.cell? p = some v) (hne : q.block ≠ p.block) : (W.setCell q u).cell? p = some v := (World.cell?_setCell_far W q p u hne).trans h
theorem cell_bl {W W' : World} {p : Addr} {v : Value} (hb : Below W.heap.size W W') (h : W.cell? p = some v) : W'.cell? p = some v := (hb.cell (World.block_lt_of_cell? W p h)).trans h

/-- What the iterator reads: the box of the groove, and three points. -/
def S7 (bl : Nat) (ad : Addr) (n k j i i2 : Nat) (p q r : Smp) (w' : World) : Prop :=
  w'.cell? ⟨bl, 0, none⟩ = some (.slice (some ad) n k) ∧ w'.cell? (ad.add (j * 2)) = some (.int .i64 p.1) ∧ w'.cell? ⟨(ad.add (j * 2)).block, (ad.add (j * 2)).off + 1, none⟩ = some (.int .i64 p.2) ∧ w'.cell? (ad.add (i * 2)) = some (.int .i64 q.1) ∧ w'.cell? ⟨(ad.add (i * 2)).block, (ad.add (i * 2)).off + 1, none⟩ = some (.int .i64 q.2) ∧ w'.cell? (ad.add (i2 * 2)) = some (.int .i64 r.1) ∧ w'.cell? ⟨(ad.add (i2 * 2)).block, (ad.add (i2 * 2)).off + 1, none⟩ = some (.int .i64 r.2)
section
variable {bl : Nat} {ad : Addr} {n k j i i2 : Nat} {p q r : Smp} {W W' : World}
theorem S7_al (o : Obj) (h : S7 bl ad n k j i i2 p q r W) : S7 bl ad n k j i i2 p q r (W.alloc o) := by
  obtain ⟨h1, h2, h3, h4, h5, h6, h7⟩ := h
  exact ⟨cell_al _ h1, cell_al _ h2, cell_al _ h3, cell_al _ h4, cell_al _ h5, cell_al _ h6, cell_al _ h7⟩
theorem S7_bl (hb : Below W.heap.size W W') (h : S7 bl ad n k j i i2 p q r W) : S7 bl ad n k j i i2 p q r W' := by
  obtain ⟨h1, h2, h3, h4, h5, h6, h7⟩ := h
  exact ⟨cell_bl hb h1, cell_bl hb h2, cell_bl hb h3, cell_bl hb h4, cell_bl hb h5, cell_bl hb h6, cell_bl hb h7⟩
theorem S7_st {b : Nat} {x y : Value} (h : S7 bl ad n k j i i2 p q r W) (g1 : b ≠ bl) (g2 : b ≠ ad.block) : S7 bl ad n k j i i2 p q r ((W.setCell ⟨b, 0, none⟩ x).setCell ⟨b, 1, none⟩ y) := by
  obtain ⟨h1, h2, h3, h4, h5, h6, h7⟩ := h
  have e : ∀ m, (ad.add m).block = ad.block := block_of_add ad
  have st : ∀ {p : Addr} {v : Value}, W.cell? p = some v → b ≠ p.block → ((W.setCell ⟨b, 0, none⟩ x).setCell ⟨b, 1, none⟩ y).cell? p = some v := fun h g => cell_st (cell_st h g) g
  exact ⟨st h1 g1, st h2 (by rw [e]; exact g2), st h3 (by show b ≠ (ad.add (j * 2)).block; rw [e]; exact g2), st h4 (by rw [e]; exact g2), st h5 (by show b ≠ (ad.add (i * 2)).block; rw [e]; exact g2), st h6 (by rw [e]; exact g2), st h7 (by show b ≠ (ad.add (i2 * 2)).block; rw [e]; exact g2)⟩
end
theorem le_al (W : World) (o : Obj) : W.heap.size ≤ (W.alloc o).heap.size := by simp

set_option maxHeartbeats 400000 in
theorem middle_any (p : Smp) (w : World) (h : (-4194304 ≤ p.1 ∧ p.1 ≤ 4194304) ∧ -4194304 ≤ p.2 ∧ p.2 ≤ 4194304) :
    Calls Try.prog 101 #[.agg #[.int .i64 p.1, .int .i64 p.2]] w fun e w' => e = .returned (.int .i64 (p.1 + p.2)) ∧ Below w.heap.size w w' := by
  have e1 : IntKind.i64.wrap (p.1 + p.2) = p.1 + p.2 := IntWalk.i64_in _ (by omega)
  go_enter Try.func101, Try.ntmps101
  go_wp2
  go_ret
  exact ⟨rfl, (Below.refl _ _).alloc (Nat.le_refl _) _⟩

set_option maxHeartbeats 400000 in
theorem bends_any (A : Option Addr) (n k : Nat) (w : World) :
    Calls Try.prog 77 #[.slice A n k] w fun e w' => e = .returned (.func (.func 100) #[] #[.pointer (some ⟨w.heap.size, 0, none⟩)]) ∧ w.alloc (.cells #[.slice A n k] 32) = w' := by
  go_enter Try.func77, Try.ntmps77
  go_wp2
  go_ret
  exact ⟨rfl, rfl⟩

set_option maxRecDepth 100000 in
set_option maxHeartbeats 8000000 in
theorem bends1_all (m bl B : Nat) (A : Option Addr) (n k : Nat) (l : List Smp) (gg : Nat → Prop) (W0 : World) (hm : 1 ≤ m) (hb : Blk W0 bl 32 #[.slice A n k]) (hR : RS W0 B A n l) (hB : B ≤ W0.heap.size) (hg : ¬ gg bl) (hgB : ∀ q, gg q → B ≤ q) (hn : n ≤ 4096) (he : Edg l) :
    SeqAll Fence.wide m Try.prog 100 #[.pointer (some ⟨bl, 0, none⟩)] (encB (bdL l)) gg (bns n) W0 := fun l_ J W hW hJ hY h0 => by
  have HNL := Lib.hid hR.1
  have HC := Lib.hid ((hW.cell (p := ⟨bl, 0, none⟩) hb.lt).trans hb.one.1)
  have HP : Hid (∀ u (hu : u < l.length), ∃ ad, A = some ad ∧ ad.block < B ∧ W.cell? (ad.add (u * 2)) = some (.int .i64 l[u].1) ∧ W.cell? ⟨(ad.add (u * 2)).block, (ad.add (u * 2)).off + 1, none⟩ = some (.int .i64 l[u].2)) := Lib.hid (fun u hu => (hR.below hW hB).at_ hu)
  have HG := Lib.hid hg
  have HGB := Lib.hid hgB
  have HE := Lib.hid he
  have HJ := Lib.hid hJ
  have HY := Lib.hid hY
  have hc := HC.out
  have e1 : IntKind.i64.wrap ((n : Int) - 1) = (n : Int) - 1 := IntWalk.i64_in _ (by omega)
  clear hb hR hB hg hgB he hJ hY hW
  refine callsIn_of_wp Try.func100 rfl trivial ?_ rfl
  simp only [Try.ntmps100, List.size_toArray, List.length_cons, List.length_nil, Nat.reduceAdd, Nat.reduceSub, Array.replicate_succ, Array.replicate_zero, List.push_toArray, List.append_toArray, List.nil_append, List.cons_append]
  gi_wp2
  gi_loopw [3] (fun z wr => ∃ j : Nat, j ≤ n - 2 ∧ z = .int .i64 ((1 + j : Nat) : Int) ∧ Hid (J ((bns n).take j) wr) ∧ Hid (Bel gg W wr)) (fun z _ => n - (intOf z).toNat)
  case atStart => exact ⟨0, Nat.zero_le _, by simp, Lib.hid h0, Lib.hid (Bel.refl _ _)⟩
  case round =>
    clear hc h0
    obtain ⟨j, hj, rfl, HJJ, HX⟩ := hrel
    have hc := HX.out.cell HC.out HG.out
    by_cases hlt : j < n - 2
    · obtain ⟨ad, hA, hbB, -, -⟩ := HP.out j (by have := HNL.out; omega)
      have HPA : Hid (∀ u (hu : u < l.length), wr.cell? (ad.add (u * 2)) = some (.int .i64 l[u].1) ∧ wr.cell? ⟨(ad.add (u * 2)).block, (ad.add (u * 2)).off + 1, none⟩ = some (.int .i64 l[u].2)) := Lib.hid (fun u hu => by
        obtain ⟨ad', hA', _, p1, p2⟩ := HP.out u hu
        rw [hA] at hA'
        cases hA'
        exact ⟨HX.out.cell p1 (fun h => by have := HGB.out _ h; rw [block_of_add] at this; omega), HX.out.cell p2 (fun h => by have := HGB.out _ h; dsimp only at this; rw [block_of_add] at this; omega)⟩)
      obtain rfl := hA
      have hx0 : j < l.length := by have := HNL.out; omega
      have hx1 : j + 1 < l.length := by have := HNL.out; omega
      have hx2 : j + 2 < l.length := by have := HNL.out; omega
      obtain ⟨a0, a1⟩ := HPA.out j hx0
      obtain ⟨b0, b1⟩ := HPA.out (j + 1) hx1
      obtain ⟨c0, c1⟩ := HPA.out (j + 2) hx2
      have bnd : ∀ u (hu : u < l.length), (-4194304 ≤ l[u].1 ∧ l[u].1 ≤ 4194304) ∧ -4194304 ≤ l[u].2 ∧ l[u].2 ≤ 4194304 := fun u hu => by
        have h1 := HE.out.1 u hu
        have h2 := HE.out.2 u hu
        rw [innW_eq hu] at h1
        rw [outW_eq hu] at h2
        omega
      have bd0 := bnd j hx0
      have bd1 := bnd (j + 1) hx1
      have bd2 := bnd (j + 2) hx2
      have HV : Hid (bdL l (1 + j) = (l[j].1 + l[j].2) + (l[j + 2].1 + l[j + 2].2) - 2 * (l[j + 1].1 + l[j + 1].2)) := Lib.hid (by
        unfold bdL
        rw [show 1 + j - 1 = j by omega, show 1 + j + 1 = j + 2 by omega, show 1 + j = j + 1 by omega, midL_eq hx0, midL_eq hx1, midL_eq hx2])
      obtain ⟨p, hp⟩ : ∃ p, l[j] = p := ⟨_, rfl⟩
      obtain ⟨q, hq⟩ : ∃ q, l[j + 1] = q := ⟨_, rfl⟩
      obtain ⟨r, hr⟩ : ∃ r, l[j + 2] = r := ⟨_, rfl⟩
      rw [hp] at a0 a1 bd0 HV
      rw [hq] at b0 b1 bd1 HV
      rw [hr] at c0 c1 bd2 HV
      clear hp hq hr bnd
      have MP := Lib.hid (fun W => middle_any p W bd0)
      have MQ := Lib.hid (fun W => middle_any q W bd1)
      have MR := Lib.hid (fun W => middle_any r W bd2)
      have w1 : IntKind.i64.wrap (p.1 + p.2 + (r.1 + r.2)) = p.1 + p.2 + (r.1 + r.2) := IntWalk.i64_in _ (by omega)
      have w2 : IntKind.i64.wrap (2 * (q.1 + q.2)) = 2 * (q.1 + q.2) := IntWalk.i64_in _ (by omega)
      have w3 : IntKind.i64.wrap (p.1 + p.2 + (r.1 + r.2) - 2 * (q.1 + q.2)) = p.1 + p.2 + (r.1 + r.2) - 2 * (q.1 + q.2) := IntWalk.i64_in _ (by omega)
      have HPRE := Lib.hid (bns_snoc (n := n) (j := j) (by rw [bns_len]; exact hlt))
      obtain ⟨i, hi⟩ : ∃ i, j + 1 = i := ⟨_, rfl⟩
      obtain ⟨i2, hi2⟩ : ∃ i2, j + 2 = i2 := ⟨_, rfl⟩
      rw [hi] at b0 b1
      rw [hi2] at c0 c1
      have hii : 1 + j = i := by omega
      rw [hii] at HV HPRE ⊢
      have HI := Lib.hid hi
      have w4 : IntKind.i64.wrap ((i : Int) - 1) = (j : Int) := by rw [show (i : Int) - 1 = j by omega]; exact IntWalk.i64_in _ (by omega)
      have w5 : IntKind.i64.wrap ((i : Int) + 1) = (i2 : Int) := by rw [show (i : Int) + 1 = (i2 : Int) by omega]; exact IntWalk.i64_in _ (by omega)
      have w6 : (i : Int) < (n : Int) - 1 := by omega
      have q0 : (j : Int) < (n : Int) := by omega
      have q1 : (i : Int) < (n : Int) := by omega
      have q2 : (i2 : Int) < (n : Int) := by omega
      clear hx0 hx1 hx2 bd0 bd1 bd2 hi hi2 hii hlt hj
      have hbl := World.block_lt_of_cell? wr _ hc
      have hbA := World.block_lt_of_cell? wr _ a0
      rw [block_of_add] at hbA
      gi_wp2_with fail
      refine wpIn_wide.2 ?_
      have hS0 : S7 bl ad n k j i i2 p q r wr.drew := ⟨hc, a0, a1, b0, b1, c0, c1⟩
      have HBG := Lib.hid (And.intro hbl hbA)
      clear hc a0 a1 b0 b1 c0 c1 hbl hbA
      have HZ := Lib.hid ((Below.refl wr.heap.size wr).drew)
      refine wp_region_held_drew (S := S7 bl ad n k j i i2 p q r) (by kernel_rfl) hS0 (fun hHeld => ?_)
      refine wpAnyH_take (i := 0) (v := ?vt1) rfl (by kernel_rfl) (by kernel_rfl) (by kernel_rfl) (fun _ _ _ h => h) (Or.inl ⟨by rfl, ?ht1⟩) hHeld ?_
      case ht1 => intro w hSw; obtain ⟨h1, h2, h3, h4, h5, h6, h7⟩ := hSw; go_simp; try with_reducible rfl
      simp only [Act.put, List.setIfInBounds_toArray]
      refine wpAnyH_take (i := 1) (v := ?vt2) rfl (by kernel_rfl) (by kernel_rfl) (by kernel_rfl) (fun _ _ _ h => h) (Or.inl ⟨by rfl, ?ht2⟩) hHeld ?_
      case ht2 => intro w hSw; obtain ⟨h1, h2, h3, h4, h5, h6, h7⟩ := hSw; go_simp; try with_reducible rfl
      simp only [Act.put]
      refine wpAnyH_take (i := 2) (v := ?vt3) rfl (by kernel_rfl) (by kernel_rfl) (by kernel_rfl) (fun _ _ _ h => h) (Or.inl ⟨by rfl, ?ht3⟩) hHeld ?_
      case ht3 => intro w hSw; obtain ⟨h1, h2, h3, h4, h5, h6, h7⟩ := hSw; go_simp; try with_reducible rfl
      simp only [Act.put]
      refine wpAnyH_take (i := 3) (v := ?vt4) rfl (by kernel_rfl) (by kernel_rfl) (by kernel_rfl) (fun _ _ _ h => h) (Or.inl ⟨by rfl, ?ht4⟩) hHeld ?_
      case ht4 => intro w hSw; obtain ⟨h1, h2, h3, h4, h5, h6, h7⟩ := hSw; go_simp; try with_reducible rfl
      simp only [Act.put]
      refine wpAnyH_take (i := 4) (v := ?vt5) rfl (by kernel_rfl) (by kernel_rfl) (by kernel_rfl) (fun _ _ _ h => h) (Or.inl ⟨by rfl, ?ht5⟩) hHeld ?_
      case ht5 => intro w hSw; obtain ⟨h1, h2, h3, h4, h5, h6, h7⟩ := hSw; go_simp; try with_reducible rfl
      simp only [Act.put]
      refine wpAnyH_take (i := 5) (v := ?vt6) rfl (by kernel_rfl) (by kernel_rfl) (by kernel_rfl) (fun _ _ _ h => h) (Or.inl ⟨by rfl, ?ht6⟩) hHeld ?_
      case ht6 => intro w hSw; obtain ⟨h1, h2, h3, h4, h5, h6, h7⟩ := hSw; go_simp; try with_reducible rfl
      simp only [Act.put]
      refine wpAnyH_take (i := 7) (v := ?vt7) rfl (by kernel_rfl) (by kernel_rfl) (by kernel_rfl) (fun _ _ _ h => h) (Or.inl ⟨by rfl, ?ht7⟩) hHeld ?_
      case ht7 => intro w hSw; obtain ⟨h1, h2, h3, h4, h5, h6, h7⟩ := hSw; go_simp; try with_reducible rfl
      simp only [Act.put]
      refine wpAnyH_take (i := 8) (v := ?vt8) rfl (by kernel_rfl) (by kernel_rfl) (by kernel_rfl) (fun _ _ _ h => h) (Or.inl ⟨by rfl, ?ht8⟩) hHeld ?_
      case ht8 => intro w hSw; obtain ⟨h1, h2, h3, h4, h5, h6, h7⟩ := hSw; go_simp; try with_reducible rfl
      simp only [Act.put]
      refine wpAnyH_take (i := 9) (v := ?vt9) rfl (by kernel_rfl) (by kernel_rfl) (by kernel_rfl) (fun _ _ _ h => h) (Or.inl ⟨by rfl, ?ht9⟩) hHeld ?_
      case ht9 => intro w hSw; obtain ⟨h1, h2, h3, h4, h5, h6, h7⟩ := hSw; go_simp; try with_reducible rfl
      simp only [Act.put]
      refine wpAnyH_take (i := 10) (v := ?vt10) rfl (by kernel_rfl) (by kernel_rfl) (by kernel_rfl) (fun _ _ _ h => h) (Or.inl ⟨by rfl, ?ht10⟩) hHeld ?_
      case ht10 => intro w hSw; obtain ⟨h1, h2, h3, h4, h5, h6, h7⟩ := hSw; go_simp; try with_reducible rfl
      simp only [Act.put]
      refine wpAnyH_take (i := 11) (v := ?vt11) rfl (by kernel_rfl) (by kernel_rfl) (by kernel_rfl) (fun _ _ _ h => h) (Or.inl ⟨by rfl, ?ht11⟩) hHeld ?_
      case ht11 => intro w hSw; obtain ⟨h1, h2, h3, h4, h5, h6, h7⟩ := hSw; go_simp; try with_reducible rfl
      simp only [Act.put]
      refine wpAnyH_take (i := 14) (v := ?vt12) rfl (by kernel_rfl) (by kernel_rfl) (by kernel_rfl) (fun _ _ _ h => h) (Or.inl ⟨by rfl, ?ht12⟩) hHeld ?_
      case ht12 => intro w hSw; obtain ⟨h1, h2, h3, h4, h5, h6, h7⟩ := hSw; go_simp; try with_reducible rfl
      simp only [Act.put]
      refine wpAnyH_take (i := 15) (v := ?vt13) rfl (by kernel_rfl) (by kernel_rfl) (by kernel_rfl) (fun _ _ _ h => h) (Or.inl ⟨by rfl, ?ht13⟩) hHeld ?_
      case ht13 => intro w hSw; obtain ⟨h1, h2, h3, h4, h5, h6, h7⟩ := hSw; go_simp; try with_reducible rfl
      simp only [Act.put]
      refine wpAnyH_take (i := 16) (v := ?vt14) rfl (by kernel_rfl) (by kernel_rfl) (by kernel_rfl) (fun _ _ _ h => h) (Or.inl ⟨by rfl, ?ht14⟩) hHeld ?_
      case ht14 => intro w hSw; obtain ⟨h1, h2, h3, h4, h5, h6, h7⟩ := hSw; go_simp; try with_reducible rfl
      simp only [Act.put]
      refine wpAnyH_take (i := 17) (v := ?vt15) rfl (by kernel_rfl) (by kernel_rfl) (by kernel_rfl) (fun _ _ _ h => h) (Or.inl ⟨by rfl, ?ht15⟩) hHeld ?_
      case ht15 => intro w hSw; obtain ⟨h1, h2, h3, h4, h5, h6, h7⟩ := hSw; go_simp; try with_reducible rfl
      simp only [Act.put]
      refine wpAnyH_ready (rs := [6, 22]) (by kernel_rfl) (by simp) ?_
      refine AllReadyH.cons rfl (fun K hK => ?_) ?_
      · go_simp
        refine (MP.out _).mono ?_
        rintro e u1 ⟨rfl, hbu1⟩
        replace HZ := Lib.hid (HZ.out.trans (hbu1.mono HZ.out.size))
        refine hK.out _ _ ?_ (fun hH16 => ?_)
        · exact S7_bl hbu1 hHeld
        clear hK K
        refine wpAnyH_ready (rs := [12, 22]) (by kernel_rfl) (by simp) ?_
        refine AllReadyH.cons rfl (fun K hK => ?_) ?_
        · go_simp
          refine (MR.out _).mono ?_
          rintro e u2 ⟨rfl, hbu2⟩
          replace HZ := Lib.hid (HZ.out.trans (hbu2.mono HZ.out.size))
          refine hK.out _ _ ?_ (fun hH17 => ?_)
          · exact S7_bl hbu2 hH16
          clear hK K
          refine wpAnyH_take (i := 13) (v := ?vt18) rfl (by kernel_rfl) (by kernel_rfl) (by kernel_rfl) (fun _ _ _ h => h) (Or.inl ⟨by rfl, ?ht18⟩) hH17 ?_
          case ht18 => intro w hSw; obtain ⟨h1, h2, h3, h4, h5, h6, h7⟩ := hSw; go_simp; try with_reducible rfl
          simp only [Act.put, List.setIfInBounds_toArray]
          refine wpAnyH_ready (rs := [18, 22]) (by kernel_rfl) (by simp) ?_
          refine AllReadyH.cons rfl (fun K hK => ?_) ?_
          · go_simp
            refine (MQ.out _).mono ?_
            rintro e u3 ⟨rfl, hbu3⟩
            replace HZ := Lib.hid (HZ.out.trans (hbu3.mono HZ.out.size))
            refine hK.out _ _ ?_ (fun hH19 => ?_)
            · exact S7_bl hbu3 hH17
            clear hK K
            refine wpAnyH_take (i := 19) (v := ?vt20) rfl (by kernel_rfl) (by kernel_rfl) (by kernel_rfl) (fun _ _ _ h => h) (Or.inl ⟨by rfl, ?ht20⟩) hH19 ?_
            case ht20 => intro w hSw; obtain ⟨h1, h2, h3, h4, h5, h6, h7⟩ := hSw; go_simp; try with_reducible rfl
            simp only [Act.put, List.setIfInBounds_toArray]
            refine wpAnyH_take (i := 20) (v := ?vt21) rfl (by kernel_rfl) (by kernel_rfl) (by kernel_rfl) (fun _ _ _ h => h) (Or.inl ⟨by rfl, ?ht21⟩) hH19 ?_
            case ht21 => intro w hSw; obtain ⟨h1, h2, h3, h4, h5, h6, h7⟩ := hSw; go_simp; try with_reducible rfl
            simp only [Act.put]
            refine wpAnyH_take (i := 21) (v := ?vt22) rfl (by kernel_rfl) (by kernel_rfl) (by kernel_rfl) (fun _ _ _ h => h) (Or.inl ⟨by rfl, ?ht22⟩) hH19 ?_
            case ht22 => intro w hSw; obtain ⟨h1, h2, h3, h4, h5, h6, h7⟩ := hSw; go_simp; try with_reducible rfl
            simp only [Act.put]
            refine wpAnyH_ready (rs := [22]) (by kernel_rfl) (by simp) ?_
            refine AllReadyH.cons rfl (fun K hK => ?_) AllReadyH.nil
            go_simp
            have HAT := Lib.hid (And.intro HZ.out (And.intro hH19.1 hH19.2.1))
            replace HZ := Lib.hid (HZ.out.alloc HZ.out.size (.cells #[.int .i64 0, .int .i64 0] 129))
            refine hK.out _ _ ?_ (fun hH23 => ?_)
            · exact S7_al _ hH19
            clear hK K
            refine wpAnyH_ready (rs := [23]) (by kernel_rfl) (by simp) ?_
            refine AllReadyH.cons rfl (fun K hK => ?_) AllReadyH.nil
            go_simp
            refine hK.out _ _ ?_ (fun hH24 => ?_)
            · exact S7_al _ hH19
            clear hK K
            refine wpAnyH_done (by kernel_rfl) ?_ _
            have HBZ : Hid (Blk (u3.alloc (.cells #[.int .i64 i, .int .i64 (p.1 + p.2 + (r.1 + r.2) - 2 * (q.1 + q.2))] 129)) u3.heap.size 129 #[.int .i64 i, .int .i64 (p.1 + p.2 + (r.1 + r.2) - 2 * (q.1 + q.2))]) := Lib.hid (blk_al rfl)
            replace HZ : Hid (Below wr.heap.size wr (u3.alloc (.cells #[.int .i64 i, .int .i64 (p.1 + p.2 + (r.1 + r.2) - 2 * (q.1 + q.2))] 129))) := Lib.hid (HAT.out.1.alloc HAT.out.1.size _)
            obtain ⟨wz, hwz⟩ : ∃ wz, (u3.alloc (.cells #[.int .i64 i, .int .i64 (p.1 + p.2 + (r.1 + r.2) - 2 * (q.1 + q.2))] 129)) = wz := ⟨_, rfl⟩
            rw [hwz] at HBZ HZ ⊢
            obtain ⟨bz, hbz⟩ : ∃ bz, u3.heap.size = bz := ⟨_, rfl⟩
            rw [hbz] at HBZ ⊢
            clear hwz hbz
            have hXz := Lib.hid (HX.out.trans (Bel.of_below HZ.out))
            have hJz := HJ.out _ _ _ _ HJJ.out (grown_none HZ.out) (by simp)
            have hpre := HPRE.out
            obtain ⟨fn, tmps, assign, body, hy, hR⟩ := HY.out _ i wz hJz (by rw [hpre]; exact List.take_prefix _ _)
            rw [hpre] at hR
            dsimp only [encB] at hy
            rw [HV.out] at hy
            have z0 := (HBZ.out.cell 0).trans rfl
            have z1 := (HBZ.out.cell 1).trans rfl
            have e6 : IntKind.i64.wrap ((i : Int) + 1) = (i : Int) + 1 := IntWalk.i64_in _ (by omega)
            clear hJz hpre w5
            gi_wp2
            refine hR.mono ?_
            rintro e W3 ⟨rfl, hJ3, hk3, hk4⟩
            gi_wp2
            go_roundw
            case rel => exact ⟨j + 1, by have := HI.out; omega, by have := HI.out; congr 1; omega, Lib.hid hJ3, Lib.hid (hXz.out.trans hk3)⟩
            case measure => simp [intOf]; omega
          refine AllReadyH.cons rfl (fun K hK => ?_) ?_
          · go_simp
            have HAT := Lib.hid (And.intro HZ.out (And.intro hH17.1 hH17.2.1))
            replace HZ := Lib.hid (HZ.out.alloc HZ.out.size (.cells #[.int .i64 0, .int .i64 0] 129))
            refine hK.out _ _ ?_ (fun hH25 => ?_)
            · exact S7_al _ hH17
            clear hK K
            refine wpAnyH_ready (rs := [18]) (by kernel_rfl) (by simp) ?_
            refine AllReadyH.cons rfl (fun K hK => ?_) AllReadyH.nil
            go_simp
            refine (MQ.out _).mono ?_
            rintro e u3 ⟨rfl, hbu3⟩
            replace HZ := Lib.hid (HZ.out.trans (hbu3.mono HZ.out.size))
            have HBN : Hid (Blk u3 u2.heap.size 129 #[.int .i64 0, .int .i64 0]) := Lib.hid (Blk.below (blk_al rfl) hbu3 (by simp))
            have t0 := HBN.out.two
            refine hK.out _ _ ?_ (fun hH26 => ?_)
            · exact S7_bl hbu3 hH25
            clear hK K
            refine wpAnyH_take (i := 19) (v := ?vt27) rfl (by kernel_rfl) (by kernel_rfl) (by kernel_rfl) (fun _ _ _ h => h) (Or.inl ⟨by rfl, ?ht27⟩) hH26 ?_
            case ht27 => intro w hSw; obtain ⟨h1, h2, h3, h4, h5, h6, h7⟩ := hSw; go_simp; try with_reducible rfl
            simp only [Act.put, List.setIfInBounds_toArray]
            refine wpAnyH_take (i := 20) (v := ?vt28) rfl (by kernel_rfl) (by kernel_rfl) (by kernel_rfl) (fun _ _ _ h => h) (Or.inl ⟨by rfl, ?ht28⟩) hH26 ?_
            case ht28 => intro w hSw; obtain ⟨h1, h2, h3, h4, h5, h6, h7⟩ := hSw; go_simp; try with_reducible rfl
            simp only [Act.put]
            refine wpAnyH_take (i := 21) (v := ?vt29) rfl (by kernel_rfl) (by kernel_rfl) (by kernel_rfl) (fun _ _ _ h => h) (Or.inl ⟨by rfl, ?ht29⟩) hH26 ?_
            case ht29 => intro w hSw; obtain ⟨h1, h2, h3, h4, h5, h6, h7⟩ := hSw; go_simp; try with_reducible rfl
            simp only [Act.put]
            refine wpAnyH_ready (rs := [23]) (by kernel_rfl) (by simp) ?_
            refine AllReadyH.cons rfl (fun K hK => ?_) AllReadyH.nil
            go_simp
            have g1 : u2.heap.size ≠ bl := Nat.ne_of_gt (World.block_lt_of_cell? _ _ HAT.out.2.1)
            have g2 : u2.heap.size ≠ ad.block := Nat.ne_of_gt (by have h := World.block_lt_of_cell? _ _ HAT.out.2.2; rw [block_of_add] at h; exact h)
            refine hK.out _ _ ?_ (fun hH30 => ?_)
            · exact S7_st hH26 g1 g2
            clear hK K
            refine wpAnyH_done (by kernel_rfl) ?_ _
            have HBZ : Hid (Blk ((u3.setCell ⟨u2.heap.size, 0, none⟩ (.int .i64 i)).setCell ⟨u2.heap.size, 1, none⟩ (.int .i64 (p.1 + p.2 + (r.1 + r.2) - 2 * (q.1 + q.2)))) u2.heap.size 129 #[.int .i64 i, .int .i64 (p.1 + p.2 + (r.1 + r.2) - 2 * (q.1 + q.2))]) := Lib.hid ((HBN.out.set_ 0 _).set_ 1 _)
            replace HZ := Lib.hid ((HZ.out.setCell (p := ⟨u2.heap.size, 0, none⟩) HAT.out.1.size (.int .i64 i)).setCell (p := ⟨u2.heap.size, 1, none⟩) HAT.out.1.size (.int .i64 (p.1 + p.2 + (r.1 + r.2) - 2 * (q.1 + q.2))))
            obtain ⟨wz, hwz⟩ : ∃ wz, ((u3.setCell ⟨u2.heap.size, 0, none⟩ (.int .i64 i)).setCell ⟨u2.heap.size, 1, none⟩ (.int .i64 (p.1 + p.2 + (r.1 + r.2) - 2 * (q.1 + q.2)))) = wz := ⟨_, rfl⟩
            rw [hwz] at HBZ HZ ⊢
            obtain ⟨bz, hbz⟩ : ∃ bz, u2.heap.size = bz := ⟨_, rfl⟩
            rw [hbz] at HBZ ⊢
            clear hwz hbz
            have hXz := Lib.hid (HX.out.trans (Bel.of_below HZ.out))
            have hJz := HJ.out _ _ _ _ HJJ.out (grown_none HZ.out) (by simp)
            have hpre := HPRE.out
            obtain ⟨fn, tmps, assign, body, hy, hR⟩ := HY.out _ i wz hJz (by rw [hpre]; exact List.take_prefix _ _)
            rw [hpre] at hR
            dsimp only [encB] at hy
            rw [HV.out] at hy
            have z0 := (HBZ.out.cell 0).trans rfl
            have z1 := (HBZ.out.cell 1).trans rfl
            have e6 : IntKind.i64.wrap ((i : Int) + 1) = (i : Int) + 1 := IntWalk.i64_in _ (by omega)
            clear hJz hpre w5
            gi_wp2
            refine hR.mono ?_
            rintro e W3 ⟨rfl, hJ3, hk3, hk4⟩
            gi_wp2
            go_roundw
            case rel => exact ⟨j + 1, by have := HI.out; omega, by have := HI.out; congr 1; omega, Lib.hid hJ3, Lib.hid (hXz.out.trans hk3)⟩
            case measure => simp [intOf]; omega
          exact AllReadyH.nil
        refine AllReadyH.cons rfl (fun K hK => ?_) ?_
        · go_simp
          have HAT := Lib.hid (And.intro HZ.out (And.intro hH16.1 hH16.2.1))
          replace HZ := Lib.hid (HZ.out.alloc HZ.out.size (.cells #[.int .i64 0, .int .i64 0] 129))
          refine hK.out _ _ ?_ (fun hH31 => ?_)
          · exact S7_al _ hH16
          clear hK K
          refine wpAnyH_ready (rs := [12]) (by kernel_rfl) (by simp) ?_
          refine AllReadyH.cons rfl (fun K hK => ?_) AllReadyH.nil
          go_simp
          refine (MR.out _).mono ?_
          rintro e u2 ⟨rfl, hbu2⟩
          replace HZ := Lib.hid (HZ.out.trans (hbu2.mono HZ.out.size))
          have HBN : Hid (Blk u2 u1.heap.size 129 #[.int .i64 0, .int .i64 0]) := Lib.hid (Blk.below (blk_al rfl) hbu2 (by simp))
          have t0 := HBN.out.two
          refine hK.out _ _ ?_ (fun hH32 => ?_)
          · exact S7_bl hbu2 hH31
          clear hK K
          refine wpAnyH_take (i := 13) (v := ?vt33) rfl (by kernel_rfl) (by kernel_rfl) (by kernel_rfl) (fun _ _ _ h => h) (Or.inl ⟨by rfl, ?ht33⟩) hH32 ?_
          case ht33 => intro w hSw; obtain ⟨h1, h2, h3, h4, h5, h6, h7⟩ := hSw; go_simp; try with_reducible rfl
          simp only [Act.put, List.setIfInBounds_toArray]
          refine wpAnyH_ready (rs := [18]) (by kernel_rfl) (by simp) ?_
          refine AllReadyH.cons rfl (fun K hK => ?_) AllReadyH.nil
          go_simp
          refine (MQ.out _).mono ?_
          rintro e u3 ⟨rfl, hbu3⟩
          replace HZ := Lib.hid (HZ.out.trans (hbu3.mono HZ.out.size))
          replace HBN := Lib.hid (HBN.out.below hbu3 HBN.out.lt)
          clear t0
          have t0 := HBN.out.two
          refine hK.out _ _ ?_ (fun hH34 => ?_)
          · exact S7_bl hbu3 hH32
          clear hK K
          refine wpAnyH_take (i := 19) (v := ?vt35) rfl (by kernel_rfl) (by kernel_rfl) (by kernel_rfl) (fun _ _ _ h => h) (Or.inl ⟨by rfl, ?ht35⟩) hH34 ?_
          case ht35 => intro w hSw; obtain ⟨h1, h2, h3, h4, h5, h6, h7⟩ := hSw; go_simp; try with_reducible rfl
          simp only [Act.put, List.setIfInBounds_toArray]
          refine wpAnyH_take (i := 20) (v := ?vt36) rfl (by kernel_rfl) (by kernel_rfl) (by kernel_rfl) (fun _ _ _ h => h) (Or.inl ⟨by rfl, ?ht36⟩) hH34 ?_
          case ht36 => intro w hSw; obtain ⟨h1, h2, h3, h4, h5, h6, h7⟩ := hSw; go_simp; try with_reducible rfl
          simp only [Act.put]
          refine wpAnyH_take (i := 21) (v := ?vt37) rfl (by kernel_rfl) (by kernel_rfl) (by kernel_rfl) (fun _ _ _ h => h) (Or.inl ⟨by rfl, ?ht37⟩) hH34 ?_
          case ht37 => intro w hSw; obtain ⟨h1, h2, h3, h4, h5, h6, h7⟩ := hSw; go_simp; try with_reducible rfl
          simp only [Act.put]
          refine wpAnyH_ready (rs := [23]) (by kernel_rfl) (by simp) ?_
          refine AllReadyH.cons rfl (fun K hK => ?_) AllReadyH.nil
          go_simp
          have g1 : u1.heap.size ≠ bl := Nat.ne_of_gt (World.block_lt_of_cell? _ _ HAT.out.2.1)
          have g2 : u1.heap.size ≠ ad.block := Nat.ne_of_gt (by have h := World.block_lt_of_cell? _ _ HAT.out.2.2; rw [block_of_add] at h; exact h)
          refine hK.out _ _ ?_ (fun hH38 => ?_)
          · exact S7_st hH34 g1 g2
          clear hK K
          refine wpAnyH_done (by kernel_rfl) ?_ _
          have HBZ : Hid (Blk ((u3.setCell ⟨u1.heap.size, 0, none⟩ (.int .i64 i)).setCell ⟨u1.heap.size, 1, none⟩ (.int .i64 (p.1 + p.2 + (r.1 + r.2) - 2 * (q.1 + q.2)))) u1.heap.size 129 #[.int .i64 i, .int .i64 (p.1 + p.2 + (r.1 + r.2) - 2 * (q.1 + q.2))]) := Lib.hid ((HBN.out.set_ 0 _).set_ 1 _)
          replace HZ := Lib.hid ((HZ.out.setCell (p := ⟨u1.heap.size, 0, none⟩) HAT.out.1.size (.int .i64 i)).setCell (p := ⟨u1.heap.size, 1, none⟩) HAT.out.1.size (.int .i64 (p.1 + p.2 + (r.1 + r.2) - 2 * (q.1 + q.2))))
          obtain ⟨wz, hwz⟩ : ∃ wz, ((u3.setCell ⟨u1.heap.size, 0, none⟩ (.int .i64 i)).setCell ⟨u1.heap.size, 1, none⟩ (.int .i64 (p.1 + p.2 + (r.1 + r.2) - 2 * (q.1 + q.2)))) = wz := ⟨_, rfl⟩
          rw [hwz] at HBZ HZ ⊢
          obtain ⟨bz, hbz⟩ : ∃ bz, u1.heap.size = bz := ⟨_, rfl⟩
          rw [hbz] at HBZ ⊢
          clear hwz hbz
          have hXz := Lib.hid (HX.out.trans (Bel.of_below HZ.out))
          have hJz := HJ.out _ _ _ _ HJJ.out (grown_none HZ.out) (by simp)
          have hpre := HPRE.out
          obtain ⟨fn, tmps, assign, body, hy, hR⟩ := HY.out _ i wz hJz (by rw [hpre]; exact List.take_prefix _ _)
          rw [hpre] at hR
          dsimp only [encB] at hy
          rw [HV.out] at hy
          have z0 := (HBZ.out.cell 0).trans rfl
          have z1 := (HBZ.out.cell 1).trans rfl
          have e6 : IntKind.i64.wrap ((i : Int) + 1) = (i : Int) + 1 := IntWalk.i64_in _ (by omega)
          clear hJz hpre w5
          gi_wp2
          refine hR.mono ?_
          rintro e W3 ⟨rfl, hJ3, hk3, hk4⟩
          gi_wp2
          go_roundw
          case rel => exact ⟨j + 1, by have := HI.out; omega, by have := HI.out; congr 1; omega, Lib.hid hJ3, Lib.hid (hXz.out.trans hk3)⟩
          case measure => simp [intOf]; omega
        exact AllReadyH.nil
      refine AllReadyH.cons rfl (fun K hK => ?_) ?_
      · go_simp
        have HAT := Lib.hid (And.intro HZ.out (And.intro hHeld.1 hHeld.2.1))
        replace HZ := Lib.hid (HZ.out.alloc HZ.out.size (.cells #[.int .i64 0, .int .i64 0] 129))
        refine hK.out _ _ ?_ (fun hH39 => ?_)
        · exact S7_al _ hHeld
        clear hK K
        refine wpAnyH_ready (rs := [6]) (by kernel_rfl) (by simp) ?_
        refine AllReadyH.cons rfl (fun K hK => ?_) AllReadyH.nil
        go_simp
        refine (MP.out _).mono ?_
        rintro e u1 ⟨rfl, hbu1⟩
        replace HZ := Lib.hid (HZ.out.trans (hbu1.mono HZ.out.size))
        have HBN : Hid (Blk u1 wr.heap.size 129 #[.int .i64 0, .int .i64 0]) := Lib.hid (Blk.below (blk_dr rfl) hbu1 (by simp))
        have t0 := HBN.out.two
        refine hK.out _ _ ?_ (fun hH40 => ?_)
        · exact S7_bl hbu1 hH39
        clear hK K
        refine wpAnyH_ready (rs := [12]) (by kernel_rfl) (by simp) ?_
        refine AllReadyH.cons rfl (fun K hK => ?_) AllReadyH.nil
        go_simp
        refine (MR.out _).mono ?_
        rintro e u2 ⟨rfl, hbu2⟩
        replace HZ := Lib.hid (HZ.out.trans (hbu2.mono HZ.out.size))
        replace HBN := Lib.hid (HBN.out.below hbu2 HBN.out.lt)
        clear t0
        have t0 := HBN.out.two
        refine hK.out _ _ ?_ (fun hH41 => ?_)
        · exact S7_bl hbu2 hH40
        clear hK K
        refine wpAnyH_take (i := 13) (v := ?vt42) rfl (by kernel_rfl) (by kernel_rfl) (by kernel_rfl) (fun _ _ _ h => h) (Or.inl ⟨by rfl, ?ht42⟩) hH41 ?_
        case ht42 => intro w hSw; obtain ⟨h1, h2, h3, h4, h5, h6, h7⟩ := hSw; go_simp; try with_reducible rfl
        simp only [Act.put, List.setIfInBounds_toArray]
        refine wpAnyH_ready (rs := [18]) (by kernel_rfl) (by simp) ?_
        refine AllReadyH.cons rfl (fun K hK => ?_) AllReadyH.nil
        go_simp
        refine (MQ.out _).mono ?_
        rintro e u3 ⟨rfl, hbu3⟩
        replace HZ := Lib.hid (HZ.out.trans (hbu3.mono HZ.out.size))
        replace HBN := Lib.hid (HBN.out.below hbu3 HBN.out.lt)
        clear t0
        have t0 := HBN.out.two
        refine hK.out _ _ ?_ (fun hH43 => ?_)
        · exact S7_bl hbu3 hH41
        clear hK K
        refine wpAnyH_take (i := 19) (v := ?vt44) rfl (by kernel_rfl) (by kernel_rfl) (by kernel_rfl) (fun _ _ _ h => h) (Or.inl ⟨by rfl, ?ht44⟩) hH43 ?_
        case ht44 => intro w hSw; obtain ⟨h1, h2, h3, h4, h5, h6, h7⟩ := hSw; go_simp; try with_reducible rfl
        simp only [Act.put, List.setIfInBounds_toArray]
        refine wpAnyH_take (i := 20) (v := ?vt45) rfl (by kernel_rfl) (by kernel_rfl) (by kernel_rfl) (fun _ _ _ h => h) (Or.inl ⟨by rfl, ?ht45⟩) hH43 ?_
        case ht45 => intro w hSw; obtain ⟨h1, h2, h3, h4, h5, h6, h7⟩ := hSw; go_simp; try with_reducible rfl
        simp only [Act.put]
        refine wpAnyH_take (i := 21) (v := ?vt46) rfl (by kernel_rfl) (by kernel_rfl) (by kernel_rfl) (fun _ _ _ h => h) (Or.inl ⟨by rfl, ?ht46⟩) hH43 ?_
        case ht46 => intro w hSw; obtain ⟨h1, h2, h3, h4, h5, h6, h7⟩ := hSw; go_simp; try with_reducible rfl
        simp only [Act.put]
        refine wpAnyH_ready (rs := [23]) (by kernel_rfl) (by simp) ?_
        refine AllReadyH.cons rfl (fun K hK => ?_) AllReadyH.nil
        go_simp
        have g1 : wr.heap.size ≠ bl := Nat.ne_of_gt (World.block_lt_of_cell? _ _ HAT.out.2.1)
        have g2 : wr.heap.size ≠ ad.block := Nat.ne_of_gt (by have h := World.block_lt_of_cell? _ _ HAT.out.2.2; rw [block_of_add] at h; exact h)
        refine hK.out _ _ ?_ (fun hH47 => ?_)
        · exact S7_st hH43 g1 g2
        clear hK K
        refine wpAnyH_done (by kernel_rfl) ?_ _
        have HBZ : Hid (Blk ((u3.setCell ⟨wr.heap.size, 0, none⟩ (.int .i64 i)).setCell ⟨wr.heap.size, 1, none⟩ (.int .i64 (p.1 + p.2 + (r.1 + r.2) - 2 * (q.1 + q.2)))) wr.heap.size 129 #[.int .i64 i, .int .i64 (p.1 + p.2 + (r.1 + r.2) - 2 * (q.1 + q.2))]) := Lib.hid ((HBN.out.set_ 0 _).set_ 1 _)
        replace HZ := Lib.hid ((HZ.out.setCell (p := ⟨wr.heap.size, 0, none⟩) HAT.out.1.size (.int .i64 i)).setCell (p := ⟨wr.heap.size, 1, none⟩) HAT.out.1.size (.int .i64 (p.1 + p.2 + (r.1 + r.2) - 2 * (q.1 + q.2))))
        obtain ⟨wz, hwz⟩ : ∃ wz, ((u3.setCell ⟨wr.heap.size, 0, none⟩ (.int .i64 i)).setCell ⟨wr.heap.size, 1, none⟩ (.int .i64 (p.1 + p.2 + (r.1 + r.2) - 2 * (q.1 + q.2)))) = wz := ⟨_, rfl⟩
        rw [hwz] at HBZ HZ ⊢
        obtain ⟨bz, hbz⟩ : ∃ bz, wr.heap.size = bz := ⟨_, rfl⟩
        rw [hbz] at HBZ ⊢
        clear hwz hbz
        have hXz := Lib.hid (HX.out.trans (Bel.of_below HZ.out))
        have hJz := HJ.out _ _ _ _ HJJ.out (grown_none HZ.out) (by simp)
        have hpre := HPRE.out
        obtain ⟨fn, tmps, assign, body, hy, hR⟩ := HY.out _ i wz hJz (by rw [hpre]; exact List.take_prefix _ _)
        rw [hpre] at hR
        dsimp only [encB] at hy
        rw [HV.out] at hy
        have z0 := (HBZ.out.cell 0).trans rfl
        have z1 := (HBZ.out.cell 1).trans rfl
        have e6 : IntKind.i64.wrap ((i : Int) + 1) = (i : Int) + 1 := IntWalk.i64_in _ (by omega)
        clear hJz hpre w5
        gi_wp2
        refine hR.mono ?_
        rintro e W3 ⟨rfl, hJ3, hk3, hk4⟩
        gi_wp2
        go_roundw
        case rel => exact ⟨j + 1, by have := HI.out; omega, by have := HI.out; congr 1; omega, Lib.hid hJ3, Lib.hid (hXz.out.trans hk3)⟩
        case measure => simp [intOf]; omega
      exact AllReadyH.nil
    · have hl1 : ¬ (((1 + j : Nat) : Int) < (n : Int) - 1) := by omega
      have HJF : Hid (J (bns n) wr) := Lib.hid (by have h := HJJ.out; rw [List.take_of_length_le (l := bns n) (i := j) (by rw [bns_len]; omega)] at h; exact h)
      obtain ⟨i, hi⟩ : ∃ i, 1 + j = i := ⟨_, rfl⟩
      rw [hi] at hl1 ⊢
      clear hi
      gi_wp2
      go_end0
      exact ⟨⟨_, rfl⟩, HJF.out⟩
end Go.Proofs.Ytjdnpgilinfkgaa
