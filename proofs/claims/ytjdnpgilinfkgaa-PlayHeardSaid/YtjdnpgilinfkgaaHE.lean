/-
  The mathematics of what can be heard.
-/
import Derived.Test.YtjdnpgilinfkgaaHD
import Derived.Test.YtjdnpgilinfkgaaMK
namespace Go.Proofs.Ytjdnpgilinfkgaa
open Go.RowKit

theorem hdCells_at : ∀ (xs : List Hrd) (k : Nat) (hk : k < xs.length), (hdCells xs)[k * 4]? = some (.int .i64 xs[k].a) ∧ (hdCells xs)[k * 4 + 1]? = some (.int .i64 xs[k].b) ∧ (hdCells xs)[k * 4 + 2]? = some (.int .i64 xs[k].c) ∧ (hdCells xs)[k * 4 + 3]? = some (.int .i64 xs[k].d)
  | x :: xs, 0, _ => ⟨rfl, rfl, rfl, rfl⟩
  | x :: xs, k + 1, h => by
    have := hdCells_at xs k (by simpa using h)
    rw [show (k + 1) * 4 = k * 4 + 1 + 1 + 1 + 1 by omega]
    exact this
theorem RH.at_ {w : World} {B : Nat} {A : Option Addr} {n : Nat} {xs : List Hrd} (h : RH w B A n xs) {k : Nat} (hk : k < xs.length) :
    ∃ ad, A = some ad ∧ ad.block < B ∧ w.cell? (ad.add (k * 4)) = some (.int .i64 xs[k].a) ∧ w.cell? ⟨(ad.add (k * 4)).block, (ad.add (k * 4)).off + 1, none⟩ = some (.int .i64 xs[k].b)
      ∧ w.cell? ⟨(ad.add (k * 4)).block, (ad.add (k * 4)).off + 2, none⟩ = some (.int .i64 xs[k].c) ∧ w.cell? ⟨(ad.add (k * 4)).block, (ad.add (k * 4)).off + 3, none⟩ = some (.int .i64 xs[k].d) := by
  obtain ⟨rfl, hr⟩ := h
  obtain ⟨ad, e, hb, hc⟩ := hr.2 (by omega)
  obtain ⟨h1, h2, h3, h4⟩ := hdCells_at xs k hk
  exact ⟨ad, e, hb, hc _ _ h1, by have := hc _ _ h2; rw [← add_of_add] at this; exact this, by have := hc _ _ h3; rw [← add_of_add] at this; exact this, by have := hc _ _ h4; rw [← add_of_add] at this; exact this⟩
theorem hrL_at {N L : List Smp} {far n k : Nat} (hk : k < (hrL N L far n).length) : (hrL N L far n)[k] = hdL N L (nbr k far n) := by simp [hrL]

/-- What a tip between a blunt and a sharp one reads near a sample lies in what can be heard. -/
theorem hd_holds {N L M : List Smp} {us : List Nat} {u : Nat} (hu : u ∈ us) (hN : outW N u ≤ outW M u ∧ innW N u ≤ innW M u) (hL : outW M u ≤ outW L u ∧ innW M u ≤ innW L u) :
    (hdL N L us).a ≤ -innW M u ∧ -innW M u ≤ (hdL N L us).b ∧ (hdL N L us).c ≤ outW M u ∧ outW M u ≤ (hdL N L us).d := by
  have h1 := mnL_le (f := fun u => -innW L u) hu
  have h2 := mnL_le (f := innW N) hu
  have h3 := mnL_le (f := outW N) hu
  have h4 := mnL_le (f := fun u => -outW L u) hu
  unfold hdL mxL
  dsimp only at *
  omega
theorem mnL_sub {f : Nat → Int} {us vs : List Nat} (h : ∀ u ∈ us, u ∈ vs) (hne : us ≠ []) (hb : ∀ u ∈ us, f u ≤ 9223372036854775807) : mnL f vs ≤ mnL f us := by
  obtain ⟨u, hu, e⟩ := mnL_at hne hb
  rw [e]
  exact mnL_le (h u hu)
theorem hd_wider {N L : List Smp} {us vs : List Nat} (h : ∀ u ∈ us, u ∈ vs) (hne : us ≠ []) (hN : ∀ u ∈ us, -4194304 ≤ innW N u ∧ innW N u ≤ 4194304 ∧ -4194304 ≤ outW N u ∧ outW N u ≤ 4194304) (hL : ∀ u ∈ us, -4194304 ≤ innW L u ∧ innW L u ≤ 4194304 ∧ -4194304 ≤ outW L u ∧ outW L u ≤ 4194304) :
    (hdL N L vs).a ≤ (hdL N L us).a ∧ (hdL N L us).b ≤ (hdL N L vs).b ∧ (hdL N L vs).c ≤ (hdL N L us).c ∧ (hdL N L us).d ≤ (hdL N L vs).d := by
  have h1 := mnL_sub (f := fun u => -innW L u) h hne (fun u hu => by have := hL u hu; omega)
  have h2 := mnL_sub (f := innW N) h hne (fun u hu => by have := hN u hu; omega)
  have h3 := mnL_sub (f := outW N) h hne (fun u hu => by have := hN u hu; omega)
  have h4 := mnL_sub (f := fun u => -outW L u) h hne (fun u hu => by have := hL u hu; omega)
  unfold hdL mxL
  dsimp only at *
  omega
theorem nbr_zero {t n : Nat} (h : t < n) : nbr t 0 n = [t] := by
  unfold nbr
  rw [show min n (t + 0 + 1) - (t - 0) = 1 by omega]
  rfl
theorem mnL_one (f : Nat → Int) (t : Nat) (h : f t ≤ 9223372036854775807) : mnL f [t] = f t := by
  show min 9223372036854775807 (f t) = f t
  omega
theorem hd_just {N : List Smp} {t n : Nat} (h : t < n) (hN : -4194304 ≤ innW N t ∧ innW N t ≤ 4194304 ∧ -4194304 ≤ outW N t ∧ outW N t ≤ 4194304) : hdL N N (nbr t 0 n) = ⟨-innW N t, -innW N t, outW N t, outW N t⟩ := by
  rw [nbr_zero h]
  unfold hdL mxL
  rw [mnL_one _ _ (by omega), mnL_one _ _ (by omega), mnL_one _ _ (by omega), mnL_one _ _ (by omega)]
  simp
theorem ckBl_z {s o : List Int} : ckBl s o = 0 ↔ blL s o = true := by unfold ckBl; split <;> simp_all
theorem edg_at {l : List Smp} (he : Edg l) {u : Nat} (hu : u < l.length) : -4194304 ≤ innW l u ∧ innW l u ≤ 4194304 ∧ -4194304 ≤ outW l u ∧ outW l u ≤ 4194304 := by
  have h1 := he.1 u hu
  have h2 := he.2 u hu
  omega
/-- A blunt tip, one that is sharper, and one that is sharper still: all about a sample. -/
theorem heard_all {s s1 s2 : List Int} {l : List Smp} (h0 : Shp s) (h1 : Shp s1) (h2 : Shp s2) (hl1 : s1.length ≤ s.length) (hl2 : s2.length ≤ s1.length) (hk1 : ∀ k, k < s1.length → atI s k ≤ atI s1 k) (hk2 : ∀ k, k < s2.length → atI s1 k ≤ atI s2 k) (he : Edg l)
    {far n t u : Nat} (hn : n = l.length) (ht : t < n) (hu : u < n) (hd : dst u t ≤ far) :
    ((hdL (rdL s l) (rdL s2 l) (nbr t far n)).a ≤ -innW (rdL s1 l) u ∧ -innW (rdL s1 l) u ≤ (hdL (rdL s l) (rdL s2 l) (nbr t far n)).b ∧ (hdL (rdL s l) (rdL s2 l) (nbr t far n)).c ≤ outW (rdL s1 l) u ∧ outW (rdL s1 l) u ≤ (hdL (rdL s l) (rdL s2 l) (nbr t far n)).d)
    ∧ ((hdL (rdL s l) (rdL s2 l) (nbr t (far + 1) n)).a ≤ (hdL (rdL s l) (rdL s2 l) (nbr t far n)).a ∧ (hdL (rdL s l) (rdL s2 l) (nbr t far n)).b ≤ (hdL (rdL s l) (rdL s2 l) (nbr t (far + 1) n)).b ∧ (hdL (rdL s l) (rdL s2 l) (nbr t (far + 1) n)).c ≤ (hdL (rdL s l) (rdL s2 l) (nbr t far n)).c ∧ (hdL (rdL s l) (rdL s2 l) (nbr t far n)).d ≤ (hdL (rdL s l) (rdL s2 l) (nbr t (far + 1) n)).d)
    ∧ hdL (rdL s1 l) (rdL s1 l) (nbr t 0 n) = ⟨-innW (rdL s1 l) t, -innW (rdL s1 l) t, outW (rdL s1 l) t, outW (rdL s1 l) t⟩ := by
  have e0 := rdL_edg h0 he
  have e1 := rdL_edg h1 he
  have e2 := rdL_edg h2 he
  have i1 := (insP_t.1 (rd_sharper h0 h1 hl1 hk1 he)).2 u (by rw [rdL_len]; omega)
  have i2 := (insP_t.1 (rd_sharper h1 h2 hl2 hk2 he)).2 u (by rw [rdL_len]; omega)
  refine ⟨hd_holds (nbr_mem.2 ⟨hu, hd⟩) i1 i2, hd_wider (fun v hv => by have := nbr_mem.1 hv; exact nbr_mem.2 ⟨this.1, by omega⟩) (List.ne_nil_of_mem (nbr_self ht)) (fun v hv => edg_at e0 (by rw [rdL_len]; have := (nbr_mem.1 hv).1; omega)) (fun v hv => edg_at e2 (by rw [rdL_len]; have := (nbr_mem.1 hv).1; omega)), hd_just ht (edg_at e1 (by rw [rdL_len]; omega))⟩
/-- The errors of the three calls. -/
theorem heard_ok {s s1 s2 : List Int} {l : List Smp} (h0 : Shp s) (h1 : Shp s1) (h2 : Shp s2) (hl1 : s1.length ≤ s.length) (hl2 : s2.length ≤ s1.length) (hk1 : ∀ k, k < s1.length → atI s k ≤ atI s1 k) (hk2 : ∀ k, k < s2.length → atI s1 k ≤ atI s2 k) (hg : ckG l = 0) {far : Nat} (hf : far ≤ 10) :
    hrEr s s2 l far = 0 ∧ hrEr s s2 l ((far : Int) + 1) = 0 ∧ hrEr s1 s1 l 0 = 0 := by
  refine ⟨hrEr_z.2 ⟨ckTip_of h0, ckTip_of h2, hg, ckBl_z.2 (blL_t.2 ⟨by omega, fun k hk => ?_⟩), ckWo_z.2 (by omega)⟩, hrEr_z.2 ⟨ckTip_of h0, ckTip_of h2, hg, ckBl_z.2 (blL_t.2 ⟨by omega, fun k hk => ?_⟩), ckWo_z.2 (by omega)⟩, hrEr_z.2 ⟨ckTip_of h1, ckTip_of h1, hg, ckBl_z.2 (blL_t.2 ⟨by omega, fun k hk => ?_⟩), ckWo_z.2 (by omega)⟩⟩
  · have := hk1 k (by omega); have := hk2 k hk; omega
  · have := hk1 k (by omega); have := hk2 k hk; omega
  · omega
theorem hrRes_eq {b s : List Int} {l : List Smp} {far : Nat} (h : hrEr b s l far = 0) : hrRes b s l far = hrL (rdL b l) (rdL s l) far l.length := by unfold hrRes; rw [if_pos h, Int.toNat_natCast]
end Go.Proofs.Ytjdnpgilinfkgaa
