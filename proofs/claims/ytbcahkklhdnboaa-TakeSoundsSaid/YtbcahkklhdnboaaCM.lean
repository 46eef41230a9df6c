/-
  What sounds, and what is rendered.
-/
import Derived.Test.YtbcahkklhdnboaaC0
namespace Go.Proofs.Ytbcahkklhdnboaa
open Go.RowKit Go.Shelf

/-- The sound of what sounds. -/
def sndOf (l : List TV) (x : Pl × Int) : Smp :=
  match l[x.1.p.tk.toNat]? with
  | some t => match t.xs[(x.1.p.fr + x.2).toNat]? with
    | some s => snd x.1.p x.1.len x.2 s
    | none => (0, 0)
  | none => (0, 0)
abbrev encS (s : Smp) : Array Value := #[.agg #[.int .i64 s.1, .int .i64 s.2]]

theorem Reads.bel {w w' : World} {gg : Nat → Prop} {B size n : Nat} {A : Option Addr} {xs : List Value} (h : Reads w B size A n xs) (hb : Bel gg w w') (hne : ∀ ad, A = some ad → ¬ gg ad.block) : Reads w' B size A n xs := by
  refine ⟨h.1, fun hn => ?_⟩
  obtain ⟨ad, e, hlt, hc⟩ := h.2 hn
  exact ⟨ad, e, hlt, fun j u hu => hb.cell (hc j u hu) (by rw [block_of_add]; exact hne ad e)⟩
theorem RT.bel {w w' : World} {gg : Nat → Prop} {B n : Nat} {A : Option Addr} {l : List TV} (h : RT w B A n l) (hb : Bel gg w w') (hne : ∀ ad, A = some ad → ¬ gg ad.block) (hnx : ∀ x ∈ l, ∀ ad, x.A = some ad → ¬ gg ad.block) : RT w' B A n l :=
  ⟨h.1, h.2.1.bel hb hne, fun t ht => ⟨(h.2.2 t ht).1, (h.2.2 t ht).2.bel hb (hnx t ht)⟩⟩
/-- What the sound of each placed part's samples needs. -/
def SdOk (l : List TV) (q : Pl) : Prop :=
  PrOk q.p ∧ FdOk q.p ∧ ∃ (m : Nat) (h : m < l.length), q.p.tk = (m : Int) ∧ q.p.to ≤ (l[m].n : Int) ∧ l[m].n ≤ 4096 ∧ l[m].n = l[m].xs.length ∧ ∀ s ∈ l[m].xs, (-32767 ≤ s.1 ∧ s.1 ≤ 32767) ∧ (-32767 ≤ s.2 ∧ s.2 ≤ 32767)

def addS (a b : Smp) : Smp := (wrap64 (a.1 + b.1), wrap64 (a.2 + b.2))
def sumS (xs : List Smp) : Smp := xs.foldl addS (0, 0)
theorem sumS_snoc (xs : List Smp) (x : Smp) : sumS (xs ++ [x]) = addS (sumS xs) x := by simp [sumS]
/-- The programme at a time. -/
def rendAt (l : List TV) (R : List Pl) (t : Nat) : Smp := sumS ((sndL R t).map (sndOf l))
def rend (l : List TV) (R : List Pl) : List Smp := (List.range (lenP R).toNat).map (rendAt l R)
theorem rend_snoc (l : List TV) (R : List Pl) (k : Nat) : (List.range (k + 1)).map (rendAt l R) = (List.range k).map (rendAt l R) ++ [rendAt l R k] := by
  rw [List.range_succ, List.map_append]; rfl
theorem smpCells_snoc (xs : List Smp) (s : Smp) : smpCells (xs ++ [s]) = smpCells xs ++ [.int .i64 s.1, .int .i64 s.2] := by simp [smpCells]

/-- What Render hands back. -/
def RnPost (w : World) (er : Int) (xs : List Smp) (e : Ending) (w' : World) : Prop :=
  ∃ v, e = .returned (.tuple #[v, .int .i64 er]) ∧ w'.ownsRow w.heap.size 39 2 v xs.length (smpCells xs) ∧ Below w.heap.size w w'
theorem info_smp : (Try.prog.info? 39).map (fun i => (i.zero, i.size, i.bytes)) = some (some (.agg #[.int .i64 0, .int .i64 0]), 2, 16) := by kernel_rfl

theorem lenP_bd (R : List Pl) (h : poss R = true) (hok : ∀ q ∈ R, PlOk q) : 0 ≤ lenP R ∧ lenP R ≤ 4096 := by
  unfold poss at h
  rw [Bool.and_eq_true, decide_eq_true_eq] at h
  refine ⟨?_, h.2⟩
  unfold lenP
  cases hg : R[R.length - 1]? with
  | none => simp
  | some q =>
    have hlt : R.length - 1 < R.length := (List.getElem?_eq_some_iff.1 hg).1
    have h1 := List.all_eq_true.1 h.1 (R.length - 1) (List.mem_range.2 hlt)
    have hq := hok q (List.mem_of_getElem? hg)
    unfold pc at h1
    rw [hg] at h1
    simp [pcA] at h1
    obtain ⟨⟨o1, o2, o3, o4, o5⟩, _, _⟩ := hq
    show 0 ≤ q.st + (q.p.to - q.p.fr)
    have := h1.1.1.1
    omega

/-- A programme that is possible: what CheckProgramme finds no fault with. -/
theorem ckP_zero (l : List TV) (ps : List Prt) (h : ckP l ps = 0) : ckT l = 0 ∧ ps.length ≤ 32 ∧ ps.all (vPart l) = true ∧ poss (placeL ps 0 0) = true := by
  unfold ckP at h
  split at h
  · rename_i h0
    split at h
    · omega
    · rename_i h1
      split at h
      · omega
      · rename_i h2
        split at h
        · omega
        · rename_i h3
          exact ⟨h0, by omega, by simpa using h2, by simpa using h3⟩
  · omega

/-- Each sample of each valid take is valid. -/
theorem ckT_smp (l : List TV) (h : ckT l = 0) (t : TV) (ht : t ∈ l) : ∀ s ∈ t.xs, (-32767 ≤ s.1 ∧ s.1 ≤ 32767) ∧ (-32767 ≤ s.2 ∧ s.2 ≤ 32767) := by
  unfold ckT at h
  split at h
  · omega
  · split at h
    · omega
    · rename_i ha
      have hall : l.all vTake = true := by simpa using ha
      have := List.all_eq_true.1 hall t ht
      simp only [vTake, Bool.and_eq_true] at this
      have hv := this.2
      intro s hs
      have := List.all_eq_true.1 hv s hs
      simp [vs, win] at this
      omega

theorem ckT_pos (l : List TV) (h : ckT l = 0) : 0 < l.length ∧ ∀ t ∈ l, 0 < t.n := by
  unfold ckT at h
  split at h
  · omega
  · rename_i hn
    split at h
    · omega
    · rename_i ha
      refine ⟨by omega, fun t ht => ?_⟩
      have hall : l.all vTake = true := by simpa using ha
      have := List.all_eq_true.1 hall t ht
      simp [vTake] at this
      omega

theorem sdOk_of (l : List TV) (w : World) (B n : Nat) (A : Option Addr) (hT : RT w B A n l) (ps : List Prt) (h : ckT l = 0) (hv : ps.all (vPart l) = true) : ∀ q ∈ placeL ps 0 0, SdOk l q := by
  have key : ∀ (ps : List Prt), ps.all (vPart l) = true → ∀ (i : Nat) (e : Int), ∀ q ∈ placeL ps i e, SdOk l q := by
    intro ps
    induction ps with
    | nil => intro _ i e q hq; simp [placeL] at hq
    | cons x xs ih =>
      intro hv i e q hq
      simp only [List.all_cons, Bool.and_eq_true] at hv
      simp only [placeL, List.mem_cons] at hq
      rcases hq with rfl | hq
      · have hp := hv.1
        refine ⟨prOk_of l h x hp, ?_⟩
        unfold vPart at hp
        cases hg : l[x.tk.toNat]? with
        | none => rw [hg] at hp; simp at hp
        | some t =>
          rw [hg] at hp
          obtain ⟨hm, rfl⟩ := List.getElem?_eq_some_iff.1 hg
          have h4 := ckT_n l h _ (List.getElem_mem hm)
          have hs := ckT_smp l h _ (List.getElem_mem hm)
          have hn := (hT.2.2 _ (List.getElem_mem hm)).1
          simp [win] at hp
          refine ⟨?_, x.tk.toNat, hm, ?_, ?_, h4, hn, hs⟩
          · show 0 ≤ x.fi ∧ x.fi ≤ 1000 ∧ 0 ≤ x.fo ∧ x.fo ≤ 1000 ∧ 0 ≤ x.lv ∧ x.lv ≤ 4000; omega
          · show x.tk = _; omega
          · show x.to ≤ _; omega
      · exact ih hv.2 _ _ q hq
  exact key ps hv 0 0
end Go.Proofs.Ytbcahkklhdnboaa
