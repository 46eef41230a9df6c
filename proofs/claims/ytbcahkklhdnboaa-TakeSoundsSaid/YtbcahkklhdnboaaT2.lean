/-
  Contract of take.Sources.
-/
import Derived.Test.YtbcahkklhdnboaaT1
import Derived.Test.YtbcahkklhdnboaaC2
import Derived.Test.YtbcahkklhdnboaaL2
namespace Go.Proofs.Ytbcahkklhdnboaa
open Go.RowKit Go.Shelf
attribute [local go_sem] Oper.semAt_some

/-- What Sources hands back. -/
def SrcsPost (w : World) (er : Int) (L : List (Pl × Int)) (e : Ending) (w' : World) : Prop :=
  ∃ v, e = .returned (.tuple #[v, .int .i64 er]) ∧ w'.ownsRow w.heap.size 36 3 v L.length (srcCells L) ∧ Below w.heap.size w w'
theorem srcs_nil {w w' : World} {er : Int} (hb : Below w.heap.size w w') : SrcsPost w er [] (.returned (.tuple #[.slice none 0 0, .int .i64 er])) w' :=
  ⟨_, rfl, World.ownsRow_nil _ _ _ _, hb⟩
def soEr (l : List TV) (ps : List Prt) (t : Int) : Int := if ckP l ps = 0 then (if t < 0 then 3 else if lenP (placeL ps 0 0) ≤ t then 3 else 0) else ckP l ps
def soL (l : List TV) (ps : List Prt) (t : Int) : List (Pl × Int) := if soEr l ps t = 0 then sndL (placeL ps 0 0) t else []
theorem own_turned {X Y : World} {row : Option Nat} {base : Nat} {e : TypeId} {size n : Nat} {v : Value} {xs : List Value} (h : X.ownsRow base e size v n xs) (hg : X.grownBy Y row) (hr : ∀ r, row = some r → ∃ o : Obj, X.heap[r]? = some o ∧ o.isCells = false) : Y.ownsRow base e size v n xs :=
  h.kept hg (by
    cases hv : v.ownBlock with
    | none => exact .inl rfl
    | some j =>
      right; intro e'
      obtain ⟨o, ho, hc⟩ := own_cells h hv
      obtain ⟨o', ho', hc'⟩ := hr j e'.symm
      rw [ho] at ho'; cases ho'; rw [hc] at hc'; cases hc')

set_option maxRecDepth 100000 in
set_option maxHeartbeats 16000000 in
theorem sources_ok (B : Nat) (A A' : Option Addr) (n c n' c' : Nat) (l : List TV) (ps : List Prt) (t : Int) (w : World) (h0 : RT w B A n l) (g0 : RP w B A' n' ps) (hB : B ≤ w.heap.size)
    (hl : n ≤ 9223372036854775807) (hl' : n' ≤ 9223372036854775807) (hs : TSm l) (hc : ckP l ps = 0) (ht0 : 0 ≤ t) (ht1 : t < lenP (placeL ps 0 0)) :
    Calls Try.prog 20 #[.slice A n c, .slice A' n' c', .int .i64 t] w (SrcsPost w 0 (sndL (placeL ps 0 0) t)) := by
  have H := Lib.hid (h0.more hB)
  have G := Lib.hid (g0.more hB)
  have HS := Lib.hid hs
  have HC := Lib.hid hc
  obtain ⟨z1, z2, z3, z4⟩ := ckP_zero l ps hc
  have HPR : Hid (∀ p ∈ ps, PrOk p) := Lib.hid (fun p hp => prOk_of l z1 p (List.all_eq_true.1 z3 p hp))
  have HOK : Hid (∀ q ∈ placeL ps 0 0, PlOk q) := Lib.hid (placeL_ok ps HPR.out 0 0 (by omega) (by omega))
  have H32 := Lib.hid z2
  have HRL : Hid ((placeL ps 0 0).length ≤ 32) := Lib.hid (by rw [placeL_length]; exact z2)
  obtain ⟨e0, e4⟩ := lenP_bd _ z4 HOK.out
  clear h0 g0 hs hc z1 z2 z3 z4
  obtain ⟨R, hR⟩ : ∃ R, placeL ps 0 0 = R := ⟨_, rfl⟩
  rw [hR] at HOK HRL ht1 e0 e4 ⊢
  have HR := Lib.hid hR
  clear hR
  obtain ⟨en, hen⟩ : ∃ en, lenP R = en := ⟨_, rfl⟩
  rw [hen] at ht1 e0 e4
  have HEN := Lib.hid hen
  clear hen
  obtain ⟨i0, hi0, hz0, hz1, hz2⟩ := info_parts info_src
  have HI0 := Lib.hid hi0
  have HZ0 := Lib.hid hz0
  have HZ1 := Lib.hid hz1
  have HZ2 := Lib.hid hz2
  clear hi0 hz0 hz1 hz2
  have t0' : decide (t < 0) = false := by simp; omega
  have t1' : decide (en ≤ t) = false := by simp; omega
  refine (callsIn_wide (n := 12)).1 ?_
  refine callsIn_of_wp_marks Try.func20 rfl trivial ?_ rfl
  simp only [Try.ntmps20, List.size_toArray, List.length_cons, List.length_nil, Nat.reduceAdd, Nat.reduceSub, Array.replicate_succ, Array.replicate_zero, List.push_toArray, List.append_toArray, List.nil_append, List.cons_append]
  gi_wp2_with fail
  refine ⟨trivial, (callsIn_wide.2 (CheckProgramme_any _ _ _ _ _ _ _ l ps _ H.out G.out (Nat.le_refl _) hl hl' HS.out)).mono ?_⟩
  rintro e w1 ⟨rfl, hb1⟩
  rw [HC.out]
  gi_wp2_with fail
  refine ⟨trivial, (callsIn_wide.2 (place_any _ _ _ _ ps _ (G.out.below hb1 (Nat.le_refl _)) hb1.size H32.out HPR.out)).mono ?_⟩
  rintro e w2 ⟨A2, c2, rfl, hq, hb2⟩
  rw [HR.out] at hq ⊢
  have HQ := Lib.hid hq
  have HBW : Hid (Below w.heap.size w w2) := Lib.hid (hb1.trans (hb2.mono hb1.size))
  clear hq hb1 hb2
  gi_wp2_with fail
  refine ⟨trivial, (callsIn_wide.2 (length_any _ _ _ _ R _ HQ.out (Nat.le_refl _) HRL.out HOK.out)).mono ?_⟩
  rintro e w3 ⟨rfl, hb3⟩
  rw [HEN.out]
  have HQ3 := Lib.hid ((HQ.out.below hb3 (Nat.le_refl _)).more hb3.size)
  clear HQ
  have HBW := Lib.hid (HBW.out.trans (hb3.mono HBW.out.size))
  clear hb3
  gi_wp2_with fail
  refine ⟨trivial, (callsIn_wide.2 (sounding_any _ _ _ _ _)).mono ?_⟩
  rintro e w5 ⟨rfl, rfl⟩
  gi_wp2_with fail
  obtain ⟨W1, hW1⟩ : ∃ W1, (((w3.alloc (.cells #[.slice none 0 0] 32)).alloc (.cells #[.slice A2 R.length c2] 68)).alloc (.cells #[.int .i64 t] 3)) = W1 := ⟨_, rfl⟩
  have b0 : Blk W1 w3.heap.size 32 #[.slice none 0 0] := by rw [← hW1]; exact ((Blk.new _ _ _).alloc _).alloc _
  have b1 : Blk W1 (w3.heap.size + 1) 68 #[.slice A2 R.length c2] := by
    rw [← hW1]; have := (Blk.new (w3.alloc (.cells #[.slice none 0 0] 32)) 68 #[.slice A2 R.length c2]).alloc (.cells #[.int .i64 t] 3); rwa [World.size_alloc] at this
  have b2 : Blk W1 (w3.heap.size + 1 + 1) 3 #[.int .i64 t] := by
    rw [← hW1]; have := Blk.new ((w3.alloc (.cells #[.slice none 0 0] 32)).alloc (.cells #[.slice A2 R.length c2] 68)) 3 #[.int .i64 t]; rwa [World.size_alloc, World.size_alloc] at this
  have hB5 : Below w3.heap.size w3 W1 := by rw [← hW1]; exact (((Below.refl _ _).alloc (Nat.le_refl _) _).alloc (by simp) _).alloc (by simp; omega) _
  have hs5 : W1.heap.size = w3.heap.size + 3 := by rw [← hW1]; simp
  rw [hW1]
  clear hW1
  have HB5 := Lib.hid hB5
  have hR5 : RQ W1 w3.heap.size A2 R.length R := HQ3.out.below hB5 (Nat.le_refl _)
  have hRpos : 0 < R.length := by
    rcases Nat.eq_zero_or_pos R.length with h0 | h0
    · have h1 : lenP R = 0 := by unfold lenP; rw [List.getElem?_eq_none (by omega)]
      have := HEN.out; omega
    · exact h0
  have ngA : ∀ ad, A2 = some ad → ¬ (ad.block = w3.heap.size ∨ W1.heap.size ≤ ad.block) := by
    intro ad hA
    obtain ⟨ad', e, hlt', _⟩ := hR5.2.2 hRpos
    rw [hA] at e; cases e; omega
  have hseq := sounding1_all (12 - 1) (w3.heap.size + 1) (w3.heap.size + 1 + 1) (fun k => k = w3.heap.size ∨ W1.heap.size ≤ k) W1.heap.size A2 R.length c2 R t W1 (by omega) b1 b2 (hR5.more (by omega)) (Nat.le_refl _) (by omega) (by show ¬ (_ = w3.heap.size ∨ W1.heap.size ≤ _); omega) (by show ¬ (_ = w3.heap.size ∨ W1.heap.size ≤ _); omega) ngA HOK.out HRL.out (by omega) (by omega)
  have hmem : ∀ x ∈ sndL R t, PlOk x.1 ∧ 0 ≤ x.2 ∧ x.2 ≤ 4096 := by
    intro x hx
    simp only [sndL, List.mem_map, List.mem_filter] at hx
    obtain ⟨q, ⟨hq1, hq2⟩, rfl⟩ := hx
    simp only [sndB, Bool.and_eq_true, decide_eq_true_eq] at hq2
    have hok := HOK.out q hq1
    refine ⟨hok, by show 0 ≤ t - q.st; omega, ?_⟩
    obtain ⟨⟨_, _, _, _, _⟩, _⟩ := hok
    have := hq2.2
    simp only [Pl.end_] at this
    show t - q.st ≤ 4096
    omega
  have HMEM := Lib.hid hmem
  have HLN : Hid ((sndL R t).length ≤ 32) := Lib.hid (Nat.le_trans (sndL_len R t) HRL.out)
  have hs6 : w3.heap.size < W1.heap.size := by omega
  clear hR5 ngA b1 b2 hmem hB5 hs5
  refine wpIn_rangeAll rfl (by omega) (gf := 71) (lb := #[.pointer (some ⟨w3.heap.size + 1, 0, none⟩), .pointer (some ⟨w3.heap.size + 1 + 1, 0, none⟩)]) rfl trivial (enters_of Try.func71 (by kernel_rfl) rfl)
    hseq (Below.refl _ _) (fun _ => rfl) (fun pre X => ∃ v, Blk X w3.heap.size 32 #[v] ∧ X.ownsRow W1.heap.size 36 3 v pre.length (srcCells pre) ∧ W1.grownBy X (some w3.heap.size)) ?hI ?h0 (fun pre x a' X => (∃ v, Blk X w3.heap.size 32 #[v] ∧ X.ownsRow W1.heap.size 36 3 v pre.length (srcCells pre) ∧ W1.grownBy X (some w3.heap.size)) ∧ ∃ bp, W1.heap.size ≤ bp ∧ Blk X bp 71 #[.int .i64 x.1.p.tk, .int .i64 x.1.p.fr, .int .i64 x.1.p.to, .int .i64 x.1.p.gp, .int .i64 x.1.p.fi, .int .i64 x.1.p.fo, .int .i64 x.1.p.lv, .int .i64 x.1.ix, .int .i64 x.1.st] ∧ a' = { tmps := #[.slice A n c, .slice A' n' c', .int .i64 t, undef, undef, undef, .slice none 0 0, .int .i64 0, .int .i64 0, .slice A2 R.length c2, .pointer (some ⟨w3.heap.size, 0, none⟩), .pointer (some ⟨bp, 0, none⟩), .int .i64 x.2, .slice A n c, .slice A' n' c', .int .i64 0, .int .i64 0, .bool false, undef, .slice A' n' c', .slice A2 R.length c2, .int .i64 t, .bool false, .bool false, .int .i64 t, .slice A2 R.length c2, .int .i64 en, .bool false, .bool false, .slice A2 R.length c2, .int .i64 t, .func (.func 71) #[] #[.pointer (some ⟨w3.heap.size + 1, 0, none⟩), .pointer (some ⟨w3.heap.size + 1 + 1, 0, none⟩)], .agg #[.int .i64 x.1.p.tk, .int .i64 x.1.p.fr, .int .i64 x.1.p.to, .int .i64 x.1.p.gp, .int .i64 x.1.p.fi, .int .i64 x.1.p.fo, .int .i64 x.1.p.lv, .int .i64 x.1.ix, .int .i64 x.1.st], .int .i64 x.2, undef, undef, undef, undef, undef, undef, undef, undef, undef, undef, undef, undef, undef, undef, undef], defers := [] }) ?hAx ?assign ?body ?done
  case hI =>
    rintro s X Y row ⟨v, i1, i2, i3⟩ hgr hr
    exact ⟨v, blk_kept i1 hgr (fun r e => (hr r e).2), own_turned i2 hgr (fun r e => (hr r e).2), grown_turn i3 hgr (fun r e => (hr r e).1)⟩
  case h0 => exact ⟨_, b0, World.ownsRow_nil _ _ _ _, grown_refl _ _⟩
  case hAx =>
    rintro pre x a' s X Y row ⟨⟨v, i1, i2, i3⟩, bp, h1, h2, h3⟩ hgr hr
    exact ⟨⟨v, blk_kept i1 hgr (fun r e => (hr r e).2), own_turned i2 hgr (fun r e => (hr r e).2), grown_turn i3 hgr (fun r e => (hr r e).1)⟩, bp, h1, blk_kept h2 hgr (fun r e => (hr r e).2), h3⟩
  case assign =>
    rintro l' pre x X K ⟨v, i1, i2, i3⟩ hK
    gi_wp2
    have hG := World.grownBy_alloc X (.cells #[.int .i64 x.1.p.tk, .int .i64 x.1.p.fr, .int .i64 x.1.p.to, .int .i64 x.1.p.gp, .int .i64 x.1.p.fi, .int .i64 x.1.p.fo, .int .i64 x.1.p.lv, .int .i64 x.1.ix, .int .i64 x.1.st] 71) none
    exact hK _ _ hG ⟨⟨v, i1.alloc _, i2.alloc _, grown_turn i3 hG (by simp)⟩, X.heap.size, i3.size, Blk.new _ _ _, rfl⟩
  case body =>
    rintro L pre x a' X hL ⟨⟨v, i1, i2, i3⟩, bp, hbp, hBx, rfl⟩ hpre
    obtain ⟨⟨⟨⟨o1, o2, o3, o4, o5⟩, -⟩, hx1, hx2⟩⟩ := And.intro (HMEM.out _ (hpre.subset (List.mem_append_right pre (List.mem_singleton.2 rfl)))) trivial
    have hlen : pre.length + 1 ≤ 32 := by
      have h1 := hpre.length_le
      rw [List.length_append, List.length_singleton] at h1
      have := HLN.out
      omega
    obtain ⟨a1, cA, rfl, -⟩ := own_reads i2
    obtain ⟨d, hd⟩ : ∃ d, pre.length = d := ⟨_, rfl⟩
    rw [hd] at i1 i2 hlen
    have HD := Lib.hid hd
    obtain ⟨c0, f0, hgl⟩ := i1.one
    have x0 := (hBx.cell 0).trans rfl
    have x1 := (hBx.cell 1).trans rfl
    have x7 := (hBx.cell 7).trans rfl
    have I1 := Lib.hid i1
    have I2 := Lib.hid i2
    have I3 := Lib.hid i3
    have zx := i3.size
    have HX : Hid (src x = [.int .i64 x.1.ix, .int .i64 x.1.p.tk, .int .i64 (x.1.p.fr + x.2)]) := Lib.hid rfl
    clear hd i1 i2 i3 hpre hBx hseq b0
    have hfr : 0 ≤ x.1.p.fr ∧ x.1.p.fr ≤ 4096 := by omega
    obtain ⟨hf1, hf2⟩ := hfr
    clear o1 o2 o3 o4 o5
    gi_wp2_with (gi_at_builtin; refine wpListIn_append_own _ rfl (.tmp 34) (.tmp 46) _ rfl W1.heap.size 36 i0 _ 3 24 Try.underlying32 HI0.out HZ0.out HZ1.out HZ2.out rfl (by omega) _ d (srcCells pre) rfl (I2.out.alloc _) ⟨X.heap.size, 0, none⟩ 1 1 [.int .i64 x.1.ix, .int .i64 x.1.p.tk, .int .i64 (x.1.p.fr + x.2)] rfl rfl (nine_new _ _ _) ?c1 ?c2 ?c3 ?c4 ?_)
    case c1 => intro u hu; simp at hu; rcases hu with rfl | rfl | rfl <;> rfl
    case c2 => unfold maxLen; omega
    case c3 => omega
    case c4 => first | omega | (simp; omega)
    intro v0 w8 hown' hgrow _
    obtain ⟨a3, cC, rfl, -⟩ := own_reads hown'
    have HNE : Hid (∀ b, (Value.slice a1 d cA).ownBlock = some b → W1.heap.size ≤ b) := Lib.hid (fun b hb => (I2.out.lt b hb).1)
    have HC8 : Hid (∀ j o, (Value.slice a1 d cA).ownBlock = some j → (X.alloc (.cells #[.int .i64 x.1.ix, .int .i64 x.1.p.tk, .int .i64 (x.1.p.fr + x.2)] 36)).heap[j]? = some o → o.isCells = true) := Lib.hid (fun j o hj ho => by
      obtain ⟨o', ho', hc'⟩ := own_cells (I2.out.alloc (.cells #[.int .i64 x.1.ix, .int .i64 x.1.p.tk, .int .i64 (x.1.p.fr + x.2)] 36)) hj
      rw [ho'] at ho; cases ho; exact hc')
    have HG := Lib.hid hgrow
    have HO := Lib.hid hown'
    have HB8 : Hid (Blk w8 w3.heap.size 32 #[.slice a1 d cA]) := Lib.hid ((I1.out.alloc _).grown hgrow (fun e => by have := HNE.out _ e.symm; omega))
    obtain ⟨t0, u0, hg8⟩ := HB8.out.one
    clear hown' hgrow c0 f0 x0 x1 x7
    gi_wp2
    refine ⟨?_, ?_, .slice a3 (d + 1) cC, ?_, ?_, ?_⟩
    · exact (((KeepsOthers.alloc X _).trans (KeepsOthers.of_grownBy HG.out HC8.out)).trans (KeepsOthers.setCell _ _ _)).from _
    · exact ((((Bel.refl (fun k => k = w3.heap.size ∨ W1.heap.size ≤ k) X).alloc _).grown HG.out (fun k e => .inr (.inl (.inr (HNE.out k e))))).setCell (p := ⟨w3.heap.size, 0, none⟩) (.inr (.inl rfl)) _)
    · exact HB8.out.set_ 0 _
    · rw [List.length_append, List.length_singleton, HD.out, srcCells_snoc, HX.out]
      exact HO.out.kept (grown_set (grown_refl w8 (some w3.heap.size)) 0 _) (by
        cases hv : (Value.slice a3 (d + 1) cC).ownBlock with
        | none => exact .inl rfl
        | some b => right; have := (HO.out.lt b hv).1; simp; omega)
    · exact grown_set (grown_turn (grown_turn I3.out (World.grownBy_alloc X _ none) (by simp)) HG.out (fun r e => HNE.out r e)) 0 _
  case done =>
    rintro D X hD ⟨v, i1, i2, i3⟩ hK
    obtain ⟨c0, f0, hgl⟩ := i1.one
    have HK := Lib.hid hK
    have I2 := Lib.hid i2
    have I3 := Lib.hid i3
    clear i1 i2 i3 hK
    have hg1 := I3.out
    have HBX : Hid (Below w3.heap.size w3 X) := Lib.hid (HB5.out.trans ⟨hg1.os, hg1.tape, hg1.output, hg1.size, fun j hj => hg1.block j (by omega) (by simp; omega)⟩)
    have zb := HBW.out.size
    clear hg1
    gi_wp2
    refine leaves_marks [D] X (by simp) (fun D' hD' => by rw [List.mem_singleton] at hD'; subst hD'; exact HK.out) (fun W' hs => ?_)
    refine ⟨_, results_tmp2 rfl _ _ _, ⟨v, rfl, own_base (own_shut I2.out hs (fun D' hD' => by rw [List.mem_singleton] at hD'; subst hD'; exact HK.out)) (by omega), below_shut (HBW.out.trans (HBX.out.mono zb)) hs (fun D' hD' => by rw [List.mem_singleton] at hD'; subst hD'; omega)⟩⟩

set_option maxRecDepth 100000 in
set_option maxHeartbeats 4000000 in
theorem sources_any (B : Nat) (A A' : Option Addr) (n c n' c' : Nat) (l : List TV) (ps : List Prt) (t : Int) (w : World) (h0 : RT w B A n l) (g0 : RP w B A' n' ps) (hB : B ≤ w.heap.size)
    (hl : n ≤ 9223372036854775807) (hl' : n' ≤ 9223372036854775807) (hs : TSm l) :
    Calls Try.prog 20 #[.slice A n c, .slice A' n' c', .int .i64 t] w (SrcsPost w (soEr l ps t) (soL l ps t)) := by
  by_cases hc : ckP l ps = 0
  · obtain ⟨z1, z2, z3, z4⟩ := ckP_zero l ps hc
    have HPR : Hid (∀ p ∈ ps, PrOk p) := Lib.hid (fun p hp => prOk_of l z1 p (List.all_eq_true.1 z3 p hp))
    have HOK : Hid (∀ q ∈ placeL ps 0 0, PlOk q) := Lib.hid (placeL_ok ps HPR.out 0 0 (by omega) (by omega))
    have HRL : Hid ((placeL ps 0 0).length ≤ 32) := Lib.hid (by rw [placeL_length]; exact z2)
    by_cases t0 : t < 0
    · have e1 : soEr l ps t = 3 := by unfold soEr; rw [if_pos hc, if_pos t0]
      have e2 : soL l ps t = [] := by unfold soL; rw [e1, if_neg (by omega)]
      rw [e1, e2]
      have H := Lib.hid (h0.more hB)
      have G := Lib.hid (g0.more hB)
      have HS := Lib.hid hs
      have HC := Lib.hid hc
      have H32 := Lib.hid z2
      have t0' : decide (t < 0) = true := decide_eq_true t0
      clear h0 g0 hs hc e1 e2 z1 z2 z3 z4
      go_enter Try.func20, Try.ntmps20
      go_wp2_with fail
      refine (CheckProgramme_any _ _ _ _ _ _ _ l ps _ H.out G.out (Nat.le_refl _) hl hl' HS.out).mono ?_
      rintro e w1 ⟨rfl, hb1⟩
      rw [HC.out]
      go_wp2_with fail
      refine (place_any _ _ _ _ ps _ (G.out.below hb1 (Nat.le_refl _)) hb1.size H32.out HPR.out).mono ?_
      rintro e w2 ⟨A2, c2, rfl, hq, hb2⟩
      clear hq
      go_wp2
      go_ret2
      exact srcs_nil (hb1.trans (hb2.mono hb1.size))
    · by_cases t1 : lenP (placeL ps 0 0) ≤ t
      · have e1 : soEr l ps t = 3 := by unfold soEr; rw [if_pos hc, if_neg t0, if_pos t1]
        have e2 : soL l ps t = [] := by unfold soL; rw [e1, if_neg (by omega)]
        rw [e1, e2]
        have H := Lib.hid (h0.more hB)
        have G := Lib.hid (g0.more hB)
        have HS := Lib.hid hs
        have HC := Lib.hid hc
        have H32 := Lib.hid z2
        have t0' : decide (t < 0) = false := decide_eq_false t0
        obtain ⟨en, hen⟩ : ∃ en, lenP (placeL ps 0 0) = en := ⟨_, rfl⟩
        rw [hen] at t1
        have HEN := Lib.hid hen
        clear h0 g0 hs hc e1 e2 z1 z2 z3 z4 hen
        go_enter Try.func20, Try.ntmps20
        go_wp2_with fail
        refine (CheckProgramme_any _ _ _ _ _ _ _ l ps _ H.out G.out (Nat.le_refl _) hl hl' HS.out).mono ?_
        rintro e w1 ⟨rfl, hb1⟩
        rw [HC.out]
        go_wp2_with fail
        refine (place_any _ _ _ _ ps _ (G.out.below hb1 (Nat.le_refl _)) hb1.size H32.out HPR.out).mono ?_
        rintro e w2 ⟨A2, c2, rfl, hq, hb2⟩
        have HQ := Lib.hid hq
        have HBW : Hid (Below w.heap.size w w2) := Lib.hid (hb1.trans (hb2.mono hb1.size))
        clear hq hb1 hb2
        go_wp2_with fail
        refine (length_any _ _ _ _ (placeL ps 0 0) _ HQ.out (Nat.le_refl _) HRL.out HOK.out).mono ?_
        rintro e w3 ⟨rfl, hb3⟩
        rw [HEN.out]
        have HBW := Lib.hid (HBW.out.trans (hb3.mono HBW.out.size))
        clear hb3
        go_wp2
        go_ret2
        exact srcs_nil HBW.out
      · have e1 : soEr l ps t = 0 := by unfold soEr; rw [if_pos hc, if_neg t0, if_neg t1]
        have e2 : soL l ps t = sndL (placeL ps 0 0) t := by unfold soL; rw [e1, if_pos rfl]
        rw [e1, e2]
        exact sources_ok B A A' n c n' c' l ps t w h0 g0 hB hl hl' hs hc (by omega) (by omega)
  · have e1 : soEr l ps t = ckP l ps := by unfold soEr; rw [if_neg hc]
    have e2 : soL l ps t = [] := by unfold soL; rw [e1, if_neg hc]
    rw [e1, e2]
    have H := Lib.hid (h0.more hB)
    have G := Lib.hid (g0.more hB)
    have HS := Lib.hid hs
    have hc1 : (ckP l ps == 0) = false := by simpa using hc
    have hc2 : (ckP l ps != 0) = true := by simpa using hc
    clear hc h0 g0 hs e1 e2
    obtain ⟨q, hq⟩ : ∃ q, q = ckP l ps := ⟨_, rfl⟩
    rw [← hq] at hc1 hc2 ⊢
    have HQ := Lib.hid hq
    clear hq
    go_enter Try.func20, Try.ntmps20
    go_wp2_with fail
    refine (CheckProgramme_any _ _ _ _ _ _ _ l ps _ H.out G.out (Nat.le_refl _) hl hl' HS.out).mono ?_
    rintro e w1 ⟨rfl, hb1⟩
    rw [← HQ.out]
    go_wp2
    go_ret2
    exact srcs_nil hb1
end Go.Proofs.Ytbcahkklhdnboaa
