/-
  What sounds, and what is rendered.
-/
import Derived.Test.YtjaomjbhkgijbaaMg7
import Derived.Test.YtjaomjbhkgijbaaMg3
import Derived.Test.YtjaomjbhkgijbaaMg8
import Derived.Laws.AppendOwn

namespace Go.Proofs.Ytjaomjbhkgijbaa
open Go.RowKit Go.Shelf

/-- The sound of what sounds. -/
def sndOf (l : List TV) (x : Pl × Int) : Smp :=
  match l[x.1.p.tk.toNat]? with
  | some t => match t.xs[(x.1.p.fr + x.2).toNat]? with
    | some s => snd x.1.p x.1.len x.2 s
    | none => (0, 0)
  | none => (0, 0)
abbrev encS (s : Smp) : Array Value := #[.agg #[.int .i64 s.1, .int .i64 s.2]]

theorem Reads.bel {w w' : World} {gg : Nat → Prop} {B size n : Nat} {A : Option Addr} {xs : List Value} (h : Reads w B size A n xs) (hb : Bel gg w w') (hne : ∀ ad, A = some ad → ¬ gg ad.block) : Reads w' B size A n xs := by
  refine ⟨h.1, fun hn => ?_⟩
  obtain ⟨ad, e, hlt, hc⟩ := h.2 hn
  exact ⟨ad, e, hlt, fun j u hu => hb.cell (hc j u hu) (by rw [block_of_add]; exact hne ad e)⟩
theorem RT.bel {w w' : World} {gg : Nat → Prop} {B n : Nat} {A : Option Addr} {l : List TV} (h : RT w B A n l) (hb : Bel gg w w') (hne : ∀ ad, A = some ad → ¬ gg ad.block) (hnx : ∀ x ∈ l, ∀ ad, x.A = some ad → ¬ gg ad.block) : RT w' B A n l :=
  ⟨h.1, h.2.1.bel hb hne, fun t ht => ⟨(h.2.2 t ht).1, (h.2.2 t ht).2.bel hb (hnx t ht)⟩⟩
/-- What the sound of each placed part's samples needs. -/
def SdOk (l : List TV) (q : Pl) : Prop :=
  PrOk q.p ∧ FdOk q.p ∧ ∃ (m : Nat) (h : m < l.length), q.p.tk = (m : Int) ∧ q.p.to ≤ (l[m].n : Int) ∧ l[m].n ≤ 4096 ∧ l[m].n = l[m].xs.length ∧ ∀ s ∈ l[m].xs, (-32767 ≤ s.1 ∧ s.1 ≤ 32767) ∧ (-32767 ≤ s.2 ∧ s.2 ≤ 32767)

def addS (a b : Smp) : Smp := (wrap64 (a.1 + b.1), wrap64 (a.2 + b.2))
def sumS (xs : List Smp) : Smp := xs.foldl addS (0, 0)
theorem sumS_snoc (xs : List Smp) (x : Smp) : sumS (xs ++ [x]) = addS (sumS xs) x := by simp [sumS]
/-- The programme at a time. -/
def rendAt (l : List TV) (R : List Pl) (t : Nat) : Smp := sumS ((sndL R t).map (sndOf l))
def rend (l : List TV) (R : List Pl) : List Smp := (List.range (lenP R).toNat).map (rendAt l R)
theorem rend_snoc (l : List TV) (R : List Pl) (k : Nat) : (List.range (k + 1)).map (rendAt l R) = (List.range k).map (rendAt l R) ++ [rendAt l R k] := by
  rw [List.range_succ, List.map_append]; rfl

/-- What Render hands back. -/
def RnPost (w : World) (er : Int) (xs : List Smp) (e : Ending) (w' : World) : Prop :=
  ∃ v, e = .returned (.tuple #[v, .int .i64 er]) ∧ w'.ownsRow w.heap.size 75 2 v xs.length (smpCells xs) ∧ Below w.heap.size w w'

theorem lenP_bd (R : List Pl) (h : poss R = true) (hok : ∀ q ∈ R, PlOk q) : 0 ≤ lenP R ∧ lenP R ≤ 4096 := by
  unfold poss at h
  rw [Bool.and_eq_true, decide_eq_true_eq] at h
  refine ⟨?_, h.2⟩
  unfold lenP
  cases hg : R[R.length - 1]? with
  | none => simp
  | some q =>
    have hlt : R.length - 1 < R.length := (List.getElem?_eq_some_iff.1 hg).1
    have h1 := List.all_eq_true.1 h.1 (R.length - 1) (List.mem_range.2 hlt)
    have hq := hok q (List.mem_of_getElem? hg)
    unfold pc at h1
    rw [hg] at h1
    simp [pcA] at h1
    obtain ⟨⟨o1, o2, o3, o4, o5⟩, _, _⟩ := hq
    show 0 ≤ q.st + (q.p.to - q.p.fr)
    have := h1.1.1.1
    omega

/-- A programme that is possible: what CheckProgramme finds no fault with. -/
theorem ckP_zero (l : List TV) (ps : List Prt) (h : ckP l ps = 0) : ckT l = 0 ∧ ps.length ≤ 32 ∧ ps.all (vPart l) = true ∧ poss (placeL ps 0 0) = true := by
  unfold ckP at h
  split at h
  · rename_i h0
    split at h
    · omega
    · rename_i h1
      split at h
      · omega
      · rename_i h2
        split at h
        · omega
        · rename_i h3
          exact ⟨h0, by omega, by simpa using h2, by simpa using h3⟩
  · omega

/-- Each sample of each valid take is valid. -/
theorem ckT_smp (l : List TV) (h : ckT l = 0) (t : TV) (ht : t ∈ l) : ∀ s ∈ t.xs, (-32767 ≤ s.1 ∧ s.1 ≤ 32767) ∧ (-32767 ≤ s.2 ∧ s.2 ≤ 32767) := by
  unfold ckT at h
  split at h
  · omega
  · split at h
    · omega
    · rename_i ha
      have hall : l.all vTake = true := by simpa using ha
      have := List.all_eq_true.1 hall t ht
      simp only [vTake, Bool.and_eq_true] at this
      have hv := this.2
      intro s hs
      have := List.all_eq_true.1 hv s hs
      simp [vs, win] at this
      omega

theorem ckT_pos (l : List TV) (h : ckT l = 0) : 0 < l.length ∧ ∀ t ∈ l, 0 < t.n := by
  unfold ckT at h
  split at h
  · omega
  · rename_i hn
    split at h
    · omega
    · rename_i ha
      refine ⟨by omega, fun t ht => ?_⟩
      have hall : l.all vTake = true := by simpa using ha
      have := List.all_eq_true.1 hall t ht
      simp [vTake] at this
      omega

theorem sdOk_of (l : List TV) (w : World) (B n : Nat) (A : Option Addr) (hT : RT w B A n l) (ps : List Prt) (h : ckT l = 0) (hv : ps.all (vPart l) = true) : ∀ q ∈ placeL ps 0 0, SdOk l q := by
  have key : ∀ (ps : List Prt), ps.all (vPart l) = true → ∀ (i : Nat) (e : Int), ∀ q ∈ placeL ps i e, SdOk l q := by
    intro ps
    induction ps with
    | nil => intro _ i e q hq; simp [placeL] at hq
    | cons x xs ih =>
      intro hv i e q hq
      simp only [List.all_cons, Bool.and_eq_true] at hv
      simp only [placeL, List.mem_cons] at hq
      rcases hq with rfl | hq
      · have hp := hv.1
        refine ⟨prOk_of l h x hp, ?_⟩
        unfold vPart at hp
        cases hg : l[x.tk.toNat]? with
        | none => rw [hg] at hp; simp at hp
        | some t =>
          rw [hg] at hp
          obtain ⟨hm, rfl⟩ := List.getElem?_eq_some_iff.1 hg
          have h4 := ckT_n l h _ (List.getElem_mem hm)
          have hs := ckT_smp l h _ (List.getElem_mem hm)
          have hn := (hT.2.2 _ (List.getElem_mem hm)).1
          simp [win] at hp
          refine ⟨?_, x.tk.toNat, hm, ?_, ?_, h4, hn, hs⟩
          · show 0 ≤ x.fi ∧ x.fi ≤ 1000 ∧ 0 ≤ x.fo ∧ x.fo ≤ 1000 ∧ 0 ≤ x.lv ∧ x.lv ≤ 4000; omega
          · show x.tk = _; omega
          · show x.to ≤ _; omega
      · exact ih hv.2 _ _ q hq
  exact key ps hv 0 0
end Go.Proofs.Ytjaomjbhkgijbaa

/-
  Contracts of sounds and of the iterator that it returns.
-/
namespace Go.Proofs.Ytjaomjbhkgijbaa
open Go.RowKit Go.Shelf
attribute [local go_sem] Oper.semAt_some

set_option maxHeartbeats 400000 in
theorem sounds_any (A A' : Option Addr) (m c m' c' : Nat) (t : Int) (w : World) :
    Calls Try.prog 137 #[.slice A' m' c', .slice A m c, .int .i64 t] w fun e w' => e = .returned (.func (.func 176) #[] #[.pointer (some ⟨w.heap.size + 1, 0, none⟩), .pointer (some ⟨w.heap.size + 1 + 1, 0, none⟩), .pointer (some ⟨w.heap.size, 0, none⟩)]) ∧
      ((w.alloc (.cells #[.slice A' m' c'] 22)).alloc (.cells #[.slice A m c] 114)).alloc (.cells #[.int .i64 t] 3) = w' := by
  go_enter Try.func137, Try.ntmps137
  go_wp2
  go_ret
  exact ⟨rfl, rfl⟩

theorem blk_kept {X Y : World} {g : Nat} {t : TypeId} {cs : Array Value} {row : Option Nat} (h : Blk X g t cs) (hg : X.grownBy Y row) (hr : ∀ r, row = some r → ∃ o : Obj, X.heap[r]? = some o ∧ o.isCells = false) : Blk Y g t cs := by
  refine (hg.block g h.lt (fun e => ?_)).trans h
  obtain ⟨o, ho, hc⟩ := hr g e.symm
  rw [show X.heap[g]? = _ from h] at ho
  cases ho; cases hc

theorem Blk.bel {w w' : World} {gg : Nat → Prop} {g : Nat} {t : TypeId} {cs : Array Value} (h : Blk w g t cs) (hb : Bel gg w w') (hg : ¬ gg g) : Blk w' g t cs := hb.block g _ h rfl hg
theorem yield_wide {m m' l L : Nat} {args : Array Value} {W : World} {R : Ending → World → Prop} (h : YieldAt Fence.wide m Try.prog l args W R) :
    ∃ fn tmps assign body, (Instr.yield l args).run Try.prog W = .ok (.round l fn tmps assign body) W ∧ RoundIn (Fence.wide.inRound L) m' Try.prog l fn tmps assign body W R := by
  obtain ⟨fn, tmps, assign, body, hy, hR⟩ := h
  exact ⟨fn, tmps, assign, body, hy, hR.1, fun c cs _ => hR.2 c cs (room_wide _)⟩

set_option maxRecDepth 100000 in
set_option maxHeartbeats 4000000 in
theorem sounds1_all (n : Nat) (bq bt bl gg B : Nat) (A A' : Option Addr) (m c m' c' : Nat) (l : List TV) (R : List Pl) (t : Int) (w : World) (hn : 5 ≤ n)
    (hq : Blk w bq 114 #[.slice A m c]) (ht : Blk w bt 3 #[.int .i64 t]) (hl : Blk w bl 22 #[.slice A' m' c']) (hR : RQ w B A m R) (hT : RT w B A' m' l) (hB : B ≤ w.heap.size)
    (hgg : gg < w.heap.size) (ngq : bq ≠ gg) (ngt : bt ≠ gg) (ngl : bl ≠ gg)
    (ngA : ∀ ad, A = some ad → ad.block ≠ gg) (ngT : ∀ ad, A' = some ad → ad.block ≠ gg) (ngX : ∀ x ∈ l, ∀ ad, x.A = some ad → ad.block ≠ gg)
    (hok : ∀ q ∈ R, PlOk q) (hsd : ∀ q ∈ R, SdOk l q) (h32 : R.length ≤ 32) (ht0 : -1000000 ≤ t) (ht1 : t ≤ 1000000) :
    SeqAll Fence.wide n Try.prog 176 #[.pointer (some ⟨bq, 0, none⟩), .pointer (some ⟨bt, 0, none⟩), .pointer (some ⟨bl, 0, none⟩)] encS (· = gg) ((sndL R t).map (sndOf l)) w := by
  intro l₀ J W hW hJ hY h0
  have hWB : Bel (· = gg) w W := Bel.of_below hW
  have hsz := hWB.size
  have h1 : 1 ≤ n := by omega
  have HY := Lib.hid hY
  have HJ := Lib.hid hJ
  have HW := Lib.hid hW
  have HOK := Lib.hid hok
  have HSD := Lib.hid hsd
  have HR := Lib.hid (hR.bel hWB ngA)
  have cq := hWB.cell hq.one.1 ngq
  have ct := hWB.cell ht.one.1 ngt
  have cl := hWB.cell hl.one.1 ngl
  have HA := Lib.hid ngA
  have HAT := Lib.hid ngT
  have HAX := Lib.hid ngX
  have HT := Lib.hid hT
  have H32 := Lib.hid h32
  have f61 : Fence.wide.fn 95 := trivial
  clear hY hJ hW hok hsd hR ngA ngT ngX hT h32 hq ht hl
  refine callsIn_of_wp_marks Try.func176 rfl trivial ?_ rfl
  simp only [Try.ntmps176, List.size_toArray, List.length_cons, List.length_nil, Nat.reduceAdd, Nat.reduceSub, Array.replicate_succ, Array.replicate_zero, List.push_toArray, List.append_toArray, List.nil_append, List.cons_append]
  have hbqW : bq < W.heap.size := World.block_lt_of_cell? W ⟨bq, 0, none⟩ cq
  have hbtW : bt < W.heap.size := World.block_lt_of_cell? W ⟨bt, 0, none⟩ ct
  have hblW : bl < W.heap.size := World.block_lt_of_cell? W ⟨bl, 0, none⟩ cl
  gi_wp2_with (gi_at_call 95; refine (callsIn_wide.2 (sounding_any _ _ _ _ _)).mono ?_; rintro e w' ⟨rfl, rfl⟩)
  have hsd : ∀ x ∈ sndL R t, x.1 ∈ R ∧ 0 ≤ x.2 ∧ x.2 < x.1.len := by
    intro x hx
    simp only [sndL, List.mem_map, List.mem_filter] at hx
    obtain ⟨q, ⟨hq1, hq2⟩, rfl⟩ := hx
    simp only [sndB, Bool.and_eq_true, decide_eq_true_eq] at hq2
    refine ⟨hq1, by show 0 ≤ t - q.st; omega, ?_⟩
    have := hq2.2
    simp only [Pl.end_, Pl.len] at *
    show t - q.st < q.p.to - q.p.fr
    omega
  have HSN := Lib.hid hsd
  obtain ⟨W3, hW3⟩ : ∃ W3, ((W.alloc (.cells #[.func (.yield l₀) #[] #[]] 155)).alloc (.cells #[.slice A m c] 114)).alloc (.cells #[.int .i64 t] 3) = W3 := ⟨_, rfl⟩
  have b4 : Blk W3 W.heap.size 155 #[.func (.yield l₀) #[] #[]] := by rw [← hW3]; exact ((Blk.new _ _ _).alloc _).alloc _
  have b5 : Blk W3 (W.heap.size + 1) 114 #[.slice A m c] := by
    rw [← hW3]; have := (Blk.new (W.alloc (.cells #[.func (.yield l₀) #[] #[]] 155)) 114 #[.slice A m c]).alloc (.cells #[.int .i64 t] 3); rwa [World.size_alloc] at this
  have b6 : Blk W3 (W.heap.size + 1 + 1) 3 #[.int .i64 t] := by
    rw [← hW3]; have := Blk.new ((W.alloc (.cells #[.func (.yield l₀) #[] #[]] 155)).alloc (.cells #[.slice A m c] 114)) 3 #[.int .i64 t]; rwa [World.size_alloc, World.size_alloc] at this
  have hB3 : Below W.heap.size W W3 := by rw [← hW3]; exact (((Below.refl _ _).alloc (Nat.le_refl _) _).alloc (by simp) _).alloc (by simp; omega) _
  have hs3 : W3.heap.size = W.heap.size + 3 := by rw [← hW3]; simp
  rw [hW3]
  clear hW3
  refine wpIn_rangeAll rfl h1 (gf := 156) (lb := #[.pointer (some ⟨W.heap.size + 1, 0, none⟩), .pointer (some ⟨W.heap.size + 1 + 1, 0, none⟩)]) rfl trivial (enters_of Try.func156 (by kernel_rfl) rfl)
    (sounding1_all (n - 1) (W.heap.size + 1) (W.heap.size + 1 + 1) (· = gg) W3.heap.size A m c R t W3 (by omega) b5 b6 (((HR.out.below hB3 (by omega))).more (by omega)) (Nat.le_refl _) (by omega) (by show ¬ _ = gg; omega) (by show ¬ _ = gg; omega) HA.out HOK.out H32.out ht0 ht1) (Below.refl _ _) (fun _ => rfl)
    (fun pre X => J (pre.map (sndOf l)) X ∧ Bel (· = gg) W X ∧ Blk X W.heap.size 155 #[.func (.yield l₀) #[] #[]])
    ?hI ?h0 (fun pre x a' X => (J (pre.map (sndOf l)) X ∧ Bel (· = gg) W X ∧ Blk X W.heap.size 155 #[.func (.yield l₀) #[] #[]]) ∧ ∃ bp, W.heap.size ≤ bp ∧ Blk X bp 117 #[.int .i64 x.1.p.tk, .int .i64 x.1.p.fr, .int .i64 x.1.p.to, .int .i64 x.1.p.gp, .int .i64 x.1.p.fi, .int .i64 x.1.p.fo, .int .i64 x.1.p.lv, .int .i64 x.1.ix, .int .i64 x.1.st] ∧ a' = { tmps := #[.func (.yield l₀) #[] #[], .pointer (some ⟨bq, 0, none⟩), .pointer (some ⟨bt, 0, none⟩), .pointer (some ⟨bl, 0, none⟩), .pointer (some ⟨W.heap.size, 0, none⟩), .pointer (some ⟨bp, 0, none⟩), .int .i64 x.2, .slice A m c, .int .i64 t, .func (.func 156) #[] #[.pointer (some ⟨W.heap.size + 1, 0, none⟩), .pointer (some ⟨W.heap.size + 1 + 1, 0, none⟩)], .agg #[.int .i64 x.1.p.tk, .int .i64 x.1.p.fr, .int .i64 x.1.p.to, .int .i64 x.1.p.gp, .int .i64 x.1.p.fi, .int .i64 x.1.p.fo, .int .i64 x.1.p.lv, .int .i64 x.1.ix, .int .i64 x.1.st], .int .i64 x.2, undef, undef, undef, undef, undef, undef, undef], defers := [] }) ?hAx ?assign ?body ?done
  case hI =>
    rintro s X Y row ⟨i1, i2, i3⟩ hgr hr
    exact ⟨HJ.out _ X Y row i1 hgr (fun r e => ⟨by have := (hr r e).1; omega, (hr r e).2⟩), i2.grown hgr (fun k e => .inr (.inr (hr k e).2)), blk_kept i3 hgr (fun r e => (hr r e).2)⟩
  case h0 => exact ⟨HJ.out [] W W3 none h0 (grown_of_below hB3) (by simp), Bel.of_below hB3, b4⟩
  case hAx =>
    rintro pre x a' s X Y row ⟨⟨i1, i2, i3⟩, bp, h1, h2, h3⟩ hgr hr
    exact ⟨⟨HJ.out _ X Y row i1 hgr (fun r e => ⟨by have := (hr r e).1; omega, (hr r e).2⟩), i2.grown hgr (fun k e => .inr (.inr (hr k e).2)), blk_kept i3 hgr (fun r e => (hr r e).2)⟩, bp, h1, blk_kept h2 hgr (fun r e => (hr r e).2), h3⟩
  case assign =>
    rintro l' pre x X K ⟨i1, i2, i3⟩ hK
    gi_wp2
    have hG := World.grownBy_alloc X (.cells #[.int .i64 x.1.p.tk, .int .i64 x.1.p.fr, .int .i64 x.1.p.to, .int .i64 x.1.p.gp, .int .i64 x.1.p.fi, .int .i64 x.1.p.fo, .int .i64 x.1.p.lv, .int .i64 x.1.ix, .int .i64 x.1.st] 117) none
    exact hK _ _ hG ⟨⟨HJ.out _ _ _ none i1 hG (by simp), i2.alloc _, i3.alloc _⟩, X.heap.size, i2.size, Blk.new _ _ _, rfl⟩
  case body =>
    rintro L pre ⟨⟨⟨tk, fr, tto, gp, fi, fo, lv⟩, ix, st⟩, i⟩ a' X hL ⟨⟨j1, j2, j3⟩, bp, hbp, hBq, rfl⟩ hpre
    have hmem := hpre.subset (List.mem_append_right pre (List.mem_singleton.2 rfl))
    obtain ⟨hqR, hi0, hi1⟩ := HSN.out _ hmem
    obtain ⟨ho, hf, mm, hmm, htk, hto, hn4, hnx, hxs⟩ := HSD.out _ hqR
    simp only [Pl.len] at hi0 hi1 htk hto hBq
    obtain rfl : tk = (mm : Int) := htk
    have hTX := HT.out.bel (hWB.trans j2) HAT.out HAX.out
    have hXs : w.heap.size ≤ X.heap.size := (hWB.trans j2).size
    obtain ⟨ad, hA, hbl, y0, y1, hRS⟩ := hTX.at_ hmm
    have hfr : 0 ≤ fr := ho.1
    obtain ⟨j, hj⟩ : ∃ j : Nat, fr + i = (j : Int) := ⟨(fr + i).toNat, by omega⟩
    have hjn : j < l[mm].n := by omega
    obtain ⟨ad2, hA2, hbl2, y2, y3⟩ := hRS.at_ (k := j) (by omega)
    rw [hA2] at y1
    have hsB := hxs _ (List.getElem_mem (show j < l[mm].xs.length by omega))
    have hmn : mm < m' := by have := HT.out.1; omega
    have hse : sndOf l ((⟨⟨(mm : Int), fr, tto, gp, fi, fo, lv⟩, ix, st⟩ : Pl), i) = snd ⟨mm, fr, tto, gp, fi, fo, lv⟩ (tto - fr) i (l[mm].xs[j]'(by omega)) := by
      simp only [sndOf, Int.toNat_natCast, List.getElem?_eq_getElem hmm, hj, List.getElem?_eq_getElem (show j < l[mm].xs.length by omega), Pl.len]
    obtain rfl := hA
    have SS := Lib.hid (sound_any ad ad2 m' c' mm l[mm] _ fr tto gp fi fo lv ix st i j X.drew (by show ad.block < X.heap.size; omega) (by show ad2.block < X.heap.size; omega) hmn y1 y2 y3 hj hjn hn4 hsB.1 hsB.2 ho hf hi0 hi1)
    have hpm := hpre.map (sndOf l)
    rw [List.map_append, List.map_singleton, hse] at hpm
    have HSE : Hid ((pre ++ [((⟨⟨(mm : Int), fr, tto, gp, fi, fo, lv⟩, ix, st⟩ : Pl), i)]).map (sndOf l) = pre.map (sndOf l) ++ [snd ⟨mm, fr, tto, gp, fi, fo, lv⟩ (tto - fr) i (l[mm].xs[j]'(by omega))]) := Lib.hid (by rw [List.map_append, List.map_singleton, hse])
    obtain ⟨sv, hsv⟩ : ∃ sv, snd ⟨mm, fr, tto, gp, fi, fo, lv⟩ (tto - fr) i (l[mm].xs[j]'(by omega)) = sv := ⟨_, rfl⟩
    rw [hsv] at SS HSE hpm
    have HPM := Lib.hid hpm
    have c4 := j3.one.1
    have hbs : W.heap.size < X.heap.size := j3.lt
    have g0 := (hBq.cell 0).trans rfl
    have g1 := (hBq.cell 1).trans rfl
    have g2 := (hBq.cell 2).trans rfl
    have g3 := (hBq.cell 3).trans rfl
    have g4 := (hBq.cell 4).trans rfl
    have g5 := (hBq.cell 5).trans rfl
    have g6 := (hBq.cell 6).trans rfl
    have g7 := (hBq.cell 7).trans rfl
    have g8 := (hBq.cell 8).trans rfl
    have cl' := j2.cell cl ngl
    have HJ1 := Lib.hid j1
    have HJ2 := Lib.hid j2
    have HJ3 := Lib.hid j3
    have HHJ := HJ
    have hmx : Try.prog.follows .mixedOrders = true := by kernel_rfl
    have f89 : Fence.wide.fn 151 := trivial
    have hdp : 1 ≤ n - 1 - 1 := by omega
    have hdp2 : 1 ≤ n - 1 - 1 - 1 := by omega
    clear hsv hse hpm hmem hqR hTX hRS y0 y1 y2 y3 hsB hmn hj hjn hA2 hbl hbl2 ho hf hn4 hnx hxs hto hi0 hi1 hpre j1 j2 j3 hBq cq ct cl hfr hXs
    gi_wp2
    gi_region_with_o (first | (gi_at_call 151; refine (CallsIn.inRound L (callsIn_wide.2 SS.out)).mono ?_; rintro e w1 ⟨rfl, hb1⟩; have d4 := (hb1.cell (p := ⟨W.heap.size, 0, none⟩) hbs).trans c4; have HBL := Lib.hid (Bel.of_below (S := (· = gg)) (((Below.refl X.heap.size X).drew).trans hb1)); have HKF := Lib.hid (KeepsFrom.of_grownBy (B := W3.heap.size) (grown_of_below (((Below.refl X.heap.size X).drew).trans hb1)) (by simp)); have HJ5 := Lib.hid (HHJ.out _ _ _ none HJ1.out (grown_of_below (((Below.refl X.heap.size X).drew).trans hb1)) (by simp)); have HB5 := Lib.hid (HJ3.out.drew.below hb1 hbs); clear hb1; obtain ⟨fn, tm, as_, bo, hy, hR⟩ := yield_wide (m' := n - 1 - 1 - 1) (L := L) (HY.out _ sv _ HJ5.out HPM.out); dsimp only [encS] at hy) | (refine hR.mono ?_; rintro e w2 ⟨rfl, hj2, hb2, hk2⟩; have HJ6 := Lib.hid hj2; have HBL2 := Lib.hid (HBL.out.trans hb2); have HK6 := Lib.hid hk2; have HB6 := Lib.hid hb2; clear hj2 hb2 hk2))
    all_goals gi_wp2
    all_goals exact ⟨(HKF.out).trans ⟨HK6.out.size, fun k o hk => HK6.out.same k o (by omega)⟩, HBL2.out, by rw [HSE.out]; exact HJ6.out, HJ2.out.trans HBL2.out, HB5.out.bel HB6.out (by omega)⟩
  case done =>
    rintro D X hD ⟨i1, _, _⟩ hK
    gi_wp2
    refine ⟨by simp, .inl ⟨_, _, rfl, run_takeDeferred hK, ?_⟩⟩
    refine ⟨.tuple #[], by simp [results, go_sem], ⟨_, rfl⟩, ?_⟩
    exact HJ.out _ X _ (some D) i1 (grownBy_putObj' _ D (.deferred none)) (fun r e => by cases e; exact ⟨by omega, _, hK, rfl⟩)
end Go.Proofs.Ytjaomjbhkgijbaa

/-
  A function that has ranged over functions in a loop: its marks, all of them, on the way out.
-/
namespace Go
open Go.RowKit

/-- The marks of ranges over functions. -/
def Marks (ds : List Nat) : List Deferred := ds.map fun D => { target := .collected D, args := #[] }

/-- W' is W, with the blocks ds turned. -/
structure ShutM (ds : List Nat) (W W' : World) : Prop where
  os : W'.os = W.os
  tape : W'.tape = W.tape
  output : W'.output = W.output
  size : W'.heap.size = W.heap.size
  block : ∀ k, k ∉ ds → W'.heap[k]? = W.heap[k]?

theorem leaves_marks {F : Fence} {n : Nat} {P : Program} {fn : Func} {tmps : Array Value} {R : Ending → World → Prop} : ∀ (ds : List Nat) (W : World),
    ds.Nodup → (∀ D ∈ ds, W.heap[D]? = some (.deferred (some []))) → (∀ W', ShutM ds W W' → LeavesInM F n P fn tmps R [] .returning W') →
    LeavesInM F n P fn tmps R (Marks ds) .returning W := by
  intro ds
  induction ds with
  | nil => exact fun W _ _ h => h W ⟨rfl, rfl, rfl, rfl, fun _ _ => rfl⟩
  | cons D ds ih =>
    intro W hn hall h
    obtain ⟨h1, h2⟩ := List.nodup_cons.1 hn
    have hD := hall D (by simp)
    refine ⟨by simp, .inl ⟨D, _, rfl, run_takeDeferred hD, ih _ h2 (fun D' hD' => ?_) (fun W' hs => h W' ?_)⟩⟩
    · have hne : D' ≠ D := fun e => h1 (e ▸ hD')
      exact (World.putObj_heap_other hne).trans (hall D' (by simp [hD']))
    · have hg := grownBy_putObj' W D (.deferred none)
      refine ⟨hs.os.trans hg.os, hs.tape.trans hg.tape, hs.output.trans hg.output, hs.size.trans ?_, fun k hk => ?_⟩
      · simp [World.putObj]
      · rw [List.mem_cons, not_or] at hk
        exact (hs.block k hk.2).trans (World.putObj_heap_other hk.1)

section
variable {W W' : World} {ds : List Nat}
theorem below_shut {B : Nat} {a : World} (h : Below B a W) (hs : ShutM ds W W') (hd : ∀ D ∈ ds, B ≤ D) : Below B a W' :=
  ⟨hs.os.trans h.os, hs.tape.trans h.tape, hs.output.trans h.output, by rw [hs.size]; exact h.size, fun k hk => (hs.block k (fun hm => by have := hd k hm; omega)).trans (h.block k hk)⟩
theorem own_shut {base : Nat} {e : TypeId} {size n : Nat} {v : Value} {xs : List Value} (h : W.ownsRow base e size v n xs) (hs : ShutM ds W W') (hd : ∀ D ∈ ds, W.heap[D]? = some (.deferred (some []))) : W'.ownsRow base e size v n xs := by
  refine ⟨h.1, h.2.imp id ?_⟩
  rintro ⟨g, cap, cur, hv, hbg, hg, rest⟩
  exact ⟨g, cap, cur, hv, hbg, (hs.block g (fun hm => by have := hd g hm; rw [hg] at this; cases this)).trans hg, rest⟩
theorem own_base {base base' : Nat} {e : TypeId} {size n : Nat} {v : Value} {xs : List Value} (h : W.ownsRow base e size v n xs) (hb : base' ≤ base) : W.ownsRow base' e size v n xs := by
  refine ⟨h.1, h.2.imp id ?_⟩
  rintro ⟨g, cap, cur, hv, hbg, rest⟩
  exact ⟨g, cap, cur, hv, Nat.le_trans hb hbg, rest⟩
/-- The block that a slice owns is cells. -/
theorem own_cells {base : Nat} {e : TypeId} {size n : Nat} {v : Value} {xs : List Value} (h : W.ownsRow base e size v n xs) {j : Nat} (hj : v.ownBlock = some j) : ∃ o : Obj, W.heap[j]? = some o ∧ o.isCells = true := by
  rcases h.2 with ⟨rfl, _⟩ | ⟨g, cap, cur, rfl, _, hg, _⟩
  · simp [Value.ownBlock] at hj
  · simp [Value.ownBlock] at hj
    subst hj
    exact ⟨_, hg, rfl⟩
theorem grown_then_below {a : World} {row : Option Nat} (h : a.grownBy W row) (hb : Below W.heap.size W W') : a.grownBy W' row :=
  ⟨hb.os.trans h.os, hb.tape.trans h.tape, hb.output.trans h.output, Nat.le_trans h.size hb.size, fun i hi hn => (hb.block i (Nat.lt_of_lt_of_le hi h.size)).trans (h.block i hi hn)⟩
theorem grown_set {a : World} {g : Nat} (h : a.grownBy W (some g)) (i : Nat) (u : Value) : a.grownBy (W.setCell ⟨g, i, none⟩ u) (some g) :=
  ⟨h.os, h.tape, h.output, by simpa [World.setCell] using h.size, fun k hk hn => (Below.heap_setCell _ _ _ _ (fun e => hn (by rw [e]))).trans (h.block k hk hn)⟩
theorem grown_turn {a : World} {g : Nat} {row : Option Nat} (h : a.grownBy W (some g)) (hg : W.grownBy W' row) (hr : ∀ r, row = some r → a.heap.size ≤ r) : a.grownBy W' (some g) :=
  ⟨hg.os.trans h.os, hg.tape.trans h.tape, hg.output.trans h.output, Nat.le_trans h.size hg.size, fun k hk hn => (hg.block k (Nat.lt_of_lt_of_le hk h.size) (fun e => by have := hr k e.symm; omega)).trans (h.block k hk hn)⟩
theorem grown_refl (a : World) (row : Option Nat) : a.grownBy a row := ⟨rfl, rfl, rfl, Nat.le_refl _, fun _ _ _ => rfl⟩
end
end Go

