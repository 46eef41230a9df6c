/-
  The walk of FilterChained: a chain is undone, may be cut anywhere, and a curve without a coefficient other than 0 changes nothing.
-/
import Derived.Test.YtlghgehbmlgacaaQD
import Derived.Test.YtlghgehbmlgacaaQC
namespace Go.Proofs.Ytlghgehbmlgacaa
open Go.RowKit

theorem info_cv : (Try.prog.info? 24).map (fun i => (i.zero, i.size, i.bytes)) = some (some (.agg #[.slice none 0 0, .slice none 0 0, .int .i64 0]), 3, 56) := by kernel_rfl
/-- A row of curves of this call's own, behind V. -/
structure Rw (V W : World) (v : Value) (m : Nat) (xs : List Value) : Prop where
  own : W.ownsRow V.heap.size 24 3 v m xs
  bel : Below V.heap.size V W
theorem rw_nil (V W : World) (h : Below V.heap.size V W) : Rw V (W.alloc (.cells #[] 24)) (.slice (some ⟨W.heap.size, 0, none⟩) 0 0) 0 [] :=
  ⟨World.ownsRow_lit (base := V.heap.size) (e := 24) (size := 3) W #[] 0 h.size (by unfold maxLen; omega) rfl, h.alloc h.size _⟩
theorem Rw.al {V W : World} {v : Value} {m : Nat} {xs : List Value} (h : Rw V W v m xs) (o : Obj) : Rw V (W.alloc o) v m xs := ⟨h.own.alloc _, h.bel.alloc h.bel.size _⟩
theorem Rw.dr {V W : World} {v : Value} {m : Nat} {xs : List Value} (h : Rw V W v m xs) : Rw V W.drew v m xs := ⟨h.own.drew, h.bel.drew⟩
theorem rw_a (V : World) : Rw V (V.alloc (.cells #[] 24)).drew (.slice (some ⟨V.heap.size, 0, none⟩) 0 0) 0 [] := (rw_nil V V (Below.refl _ _)).dr
theorem rw_b (V : World) (o : Obj) : Rw V ((V.alloc (.cells #[] 24)).alloc o).drew (.slice (some ⟨V.heap.size, 0, none⟩) 0 0) 0 [] := ((rw_nil V V (Below.refl _ _)).al o).dr
theorem rw_c (V : World) (o : Obj) : Rw V ((V.alloc o).alloc (.cells #[] 24)).drew (.slice (some ⟨V.heap.size + 1, 0, none⟩) 0 0) 0 [] := by
  have h := rw_nil V (V.alloc o) ((Below.refl _ _).alloc (Nat.le_refl _) _)
  rw [show (V.alloc o).heap.size = V.heap.size + 1 from by simp] at h
  exact h.dr
theorem Rw.grow {V W W' : World} {v v' : Value} {m m' : Nat} {xs xs' : List Value} (h : Rw V W v m xs) (hg : W.grownBy W' v.ownBlock) (ho : W'.ownsRow V.heap.size 24 3 v' m' xs') : Rw V W' v' m' xs' :=
  ⟨ho, h.bel.trans (grown_below hg h.bel.size (fun k hk => (h.own.lt k hk).1))⟩
theorem more_rc {V wx : World} {A : Option Addr} {n k : Nat} {l : List CV} {ti : CV} {v : Value} (HR : RC V V.heap.size A n l) (hti : CI V V.heap.size ti) (h : Rw V wx v (k + 1 + (n - k)) (cvCells (l.take k) ++ cvCells [ti] ++ cvCells (l.drop k))) (hk : k ≤ n) :
    ∃ AM cM, v = .slice AM (n + 1) cM ∧ RC wx wx.heap.size AM (n + 1) (l.take k ++ ti :: l.drop k) := by
  obtain ⟨A', c', rfl, hr⟩ := own_reads h.own
  have e : k + 1 + (n - k) = n + 1 := by omega
  have e2 : cvCells (l.take k) ++ cvCells [ti] ++ cvCells (l.drop k) = cvCells (l.take k ++ ti :: l.drop k) := by simp [cvCells]
  rw [e, e2] at hr
  refine ⟨A', c', by rw [e], by have := HR.1; simp; omega, hr, fun t ht => ?_⟩
  rcases List.mem_append.1 ht with ht | ht
  · exact ((HR.2.2 t (List.mem_of_mem_take ht)).below h.bel (Nat.le_refl _)).more h.bel.size
  · rcases List.mem_cons.1 ht with rfl | ht
    · exact (hti.below h.bel (Nat.le_refl _)).more h.bel.size
    · exact ((HR.2.2 t (List.mem_of_mem_drop ht)).below h.bel (Nat.le_refl _)).more h.bel.size

set_option maxRecDepth 100000 in
set_option maxHeartbeats 8000000 in
theorem chained_walk (B : Nat) (A : Option Addr) (n ka : Nat) (l : List CV) (Ax : Option Addr) (nx kx : Nat) (x : List Int) (a sh : Int) (w : World) (hc : RC w B A n l) (hX : LI w B Ax nx x) (hB : B ≤ w.heap.size) (hl : n ≤ 9223372036854775807) (hlx : nx ≤ 9223372036854775807) (hka : n ≤ ka) (hs : CSm l) (r1 : 0 ≤ a) (r2 : a ≤ 255) (r3 : 0 ≤ sh) (r4 : sh ≤ 65535) :
    Calls Try.prog 10 #[.slice A n ka, .slice Ax nx kx, .int .u8 a, .int .u16 sh] w fun e w' => e = .returned (.bool true) ∧ Below w.heap.size w w' := by
  have HC := Lib.hid (hc.more hB)
  have HX := Lib.hid (hX.more hB)
  have HNC := Lib.hid hc.1
  have HNX := Lib.hid hX.1
  clear hc hX hB
  by_cases h7 : 7 < n
  · skip
    have HB := Lib.hid (Below.refl w.heap.size w)
    go_enter Try.func10, Try.ntmps10
    go_wp2_with fail
    have CALL := works_any w
    refine CALL.mono ?_
    rintro e w1 ⟨rfl, hb⟩
    clear CALL
    have hsz1 := hb.size
    replace HC := Lib.hid (HC.out.below hb (by omega))
    replace HX := Lib.hid (HX.out.below hb (by omega))
    replace HB := Lib.hid (HB.out.trans (hb.mono (by omega)))

    clear hb
    go_wp2
    go_ret
    exact ⟨rfl, HB.out⟩
  obtain ⟨er, hcc⟩ : ∃ e, ckCs (l.map CV.c) = e := ⟨_, rfl⟩
  have HCC := Lib.hid hcc
  by_cases her : er = 0
  case neg =>
    clear hcc
    have her2 : (er != 0) = true := by simpa using her
    have HB := Lib.hid (Below.refl w.heap.size w)
    go_enter Try.func10, Try.ntmps10
    go_wp2_with fail
    have CALL := refCheckChain_any w.heap.size A n ka l w (HC.out.more (by omega)) (Nat.le_refl _) (by omega) hs
    rw [HCC.out] at CALL
    refine CALL.mono ?_
    rintro e w1 ⟨rfl, hb⟩
    clear CALL
    have hsz1 := hb.size
    replace HC := Lib.hid (HC.out.below hb (by omega))
    replace HX := Lib.hid (HX.out.below hb (by omega))
    replace HB := Lib.hid (HB.out.trans (hb.mono (by omega)))

    clear hb
    go_wp2_with fail
    have CALL := works_any w1
    refine CALL.mono ?_
    rintro e w2 ⟨rfl, hb⟩
    clear CALL
    have hsz2 := hb.size
    replace HC := Lib.hid (HC.out.below hb (by omega))
    replace HX := Lib.hid (HX.out.below hb (by omega))
    replace HB := Lib.hid (HB.out.trans (hb.mono (by omega)))

    clear hb
    go_wp2
    go_ret
    exact ⟨rfl, HB.out⟩
  subst her
  by_cases h200 : 200 < nx
  · clear hcc
    have HB := Lib.hid (Below.refl w.heap.size w)
    go_enter Try.func10, Try.ntmps10
    go_wp2_with fail
    have CALL := refCheckChain_any w.heap.size A n ka l w (HC.out.more (by omega)) (Nat.le_refl _) (by omega) hs
    rw [HCC.out] at CALL
    refine CALL.mono ?_
    rintro e w1 ⟨rfl, hb⟩
    clear CALL
    have hsz1 := hb.size
    replace HC := Lib.hid (HC.out.below hb (by omega))
    replace HX := Lib.hid (HX.out.below hb (by omega))
    replace HB := Lib.hid (HB.out.trans (hb.mono (by omega)))

    clear hb
    go_wp2_with fail
    have CALL := works_any w1
    refine CALL.mono ?_
    rintro e w2 ⟨rfl, hb⟩
    clear CALL
    have hsz2 := hb.size
    replace HC := Lib.hid (HC.out.below hb (by omega))
    replace HX := Lib.hid (HX.out.below hb (by omega))
    replace HB := Lib.hid (HB.out.trans (hb.mono (by omega)))

    clear hb
    go_wp2
    go_ret
    exact ⟨rfl, HB.out⟩
  obtain ⟨es, hsg⟩ : ∃ e, ckX x = e := ⟨_, rfl⟩
  have HSG := Lib.hid hsg
  by_cases hes : es = 0
  case neg =>
    clear hcc hsg
    have hes2 : (es != 0) = true := by simpa using hes
    have HB := Lib.hid (Below.refl w.heap.size w)
    go_enter Try.func10, Try.ntmps10
    go_wp2_with fail
    have CALL := refCheckChain_any w.heap.size A n ka l w (HC.out.more (by omega)) (Nat.le_refl _) (by omega) hs
    rw [HCC.out] at CALL
    refine CALL.mono ?_
    rintro e w1 ⟨rfl, hb⟩
    clear CALL
    have hsz1 := hb.size
    replace HC := Lib.hid (HC.out.below hb (by omega))
    replace HX := Lib.hid (HX.out.below hb (by omega))
    replace HB := Lib.hid (HB.out.trans (hb.mono (by omega)))

    clear hb
    go_wp2_with fail
    have CALL := refSignal_any w1.heap.size Ax nx kx x w1 (HX.out.more (by omega)) (by omega)
    rw [HSG.out] at CALL
    refine CALL.mono ?_
    rintro e w_ ⟨rfl, rfl⟩
    clear CALL
    go_wp2_with fail
    have CALL := works_any w1
    refine CALL.mono ?_
    rintro e w2 ⟨rfl, hb⟩
    clear CALL
    have hsz2 := hb.size
    replace HC := Lib.hid (HC.out.below hb (by omega))
    replace HX := Lib.hid (HX.out.below hb (by omega))
    replace HB := Lib.hid (HB.out.trans (hb.mono (by omega)))

    clear hb
    go_wp2
    go_ret
    exact ⟨rfl, HB.out⟩
  subst hes
  obtain ⟨k, hk, hkn⟩ := tmod_natU a n r1
  obtain ⟨si, hsi⟩ : ∃ s, 1 + sh % 4096 = s := ⟨_, rfl⟩
  have hs1 : 1 ≤ si ∧ si ≤ 4096 := by
    omega
  have hck := ckCs_ok hcc
  have hmap : (l.take k).map CV.c ++ (l.drop k).map CV.c = l.map CV.c := by rw [← List.map_append, List.take_append_drop]
  have ec := chEr_mk hcc hsg
  have ct : ckCs ((l.take k).map CV.c) = 0 := ckCs_mk (by rw [List.length_map, List.length_take]; have := HNC.out; omega) (fun c hc => hck.2 c (by rw [← hmap]; exact List.mem_append_left _ hc))
  have cd : ckCs ((l.drop k).map CV.c) = 0 := ckCs_mk (by rw [List.length_map, List.length_drop]; have := HNC.out; omega) (fun c hc => hck.2 c (by rw [← hmap]; exact List.mem_append_right _ hc))
  have cm : ckCs ((l.take k).map CV.c ++ idleC si :: (l.drop k).map CV.c) = 0 := ckCs_mk (by simp; have := HNC.out; omega) (fun c hc => by
    rcases List.mem_append.1 hc with hc | hc
    · exact hck.2 c (by rw [← hmap]; exact List.mem_append_left _ hc)
    · rcases List.mem_cons.1 hc with rfl | hc
      · exact idle_ok hs1.1 hs1.2
      · exact hck.2 c (by rw [← hmap]; exact List.mem_append_right _ hc))
  have hidle := chS_idle si ((l.take k).map CV.c) ((l.drop k).map CV.c) hsg
  rw [hmap] at hidle
  have hcat := chS_append true ((l.take k).map CV.c) ((l.drop k).map CV.c) x
  rw [hmap] at hcat
  have e1 : IntKind.i64.wrap a = a := IntWalk.i64_in _ (by omega)
  have e2 : IntKind.i64.wrap ((n : Int) + 1) = (n : Int) + 1 := IntWalk.i64_in _ (by omega)
  have e3 : ((n : Int) + 1 == 0) = false := beq_eq_false_iff_ne.2 (by omega)
  have e4 : ¬ ((n : Int) + 1 = 0) := by omega
  have e5 : IntKind.i64.wrap (k : Int) = (k : Int) := IntWalk.i64_in _ (by omega)
  have e6 : IntKind.i64.wrap sh = sh := IntWalk.i64_in _ (by omega)
  obtain ⟨i0, hi0, hz0, hz1, hz2⟩ := info_parts info_cv
  have HI0 := Lib.hid hi0
  have HZ0 := Lib.hid hz0
  have HZ1 := Lib.hid hz1
  have HZ2 := Lib.hid hz2
  clear hi0 hz0 hz1 hz2
  have hkmax : k ≤ 7 := by omega
  have HCT := Lib.hid (HC.out.take k hkn)
  have HCD := Lib.hid (HC.out.drop k hkn hka)
  have sl1 := fun W => cvs_to A k n ka (by omega) W
  have sl2 := fun W => cvs_from A k n ka (by omega) W
  have hmm : ((l.take k ++ (⟨some ⟨0, 0, none⟩, 2, 2, some ⟨0, 0, none⟩, 1, 1, idleC si⟩ : CV) :: l.drop k)).map CV.c = (l.take k).map CV.c ++ idleC si :: (l.drop k).map CV.c := by simp
  have SXX := Lib.hid (sameI_self x)
  have hxl : x.length ≤ 200 := by have := HNX.out; omega
  have h0l : ([] : List Int).length ≤ 200 := by simp
  obtain ⟨yv, hyv⟩ : ∃ v, chRes true (l.map CV.c) x = v := ⟨_, rfl⟩
  obtain ⟨ye, hye⟩ : ∃ v, chErr true (l.map CV.c) x = v := ⟨_, rfl⟩
  have EYV := Lib.hid (And.intro hyv hye)
  have HMATH : Hid ((yv = [] ∧ ye = 4 ∧ (∀ ts : List CV, ts.map CV.c = (l.take k).map CV.c ++ idleC si :: (l.drop k).map CV.c → chRes true (ts.map CV.c) x = [] ∧ chErr true (ts.map CV.c) x = 4) ∧ chRes true ((l.take k).map CV.c) x = [] ∧ chErr true ((l.take k).map CV.c) x = 4) ∨
      (∃ u : List Int, yv = [] ∧ ye = 4 ∧ (∀ ts : List CV, ts.map CV.c = (l.take k).map CV.c ++ idleC si :: (l.drop k).map CV.c → chRes true (ts.map CV.c) x = [] ∧ chErr true (ts.map CV.c) x = 4) ∧ u.length ≤ 4096 ∧ (chRes true ((l.take k).map CV.c) x = u ∧ chErr true ((l.take k).map CV.c) x = 0) ∧ (chRes true ((l.drop k).map CV.c) u = [] ∧ chErr true ((l.drop k).map CV.c) u = 4)) ∨
      (∃ u y : List Int, yv = y ∧ ye = 0 ∧ (∀ ts : List CV, ts.map CV.c = (l.take k).map CV.c ++ idleC si :: (l.drop k).map CV.c → chRes true (ts.map CV.c) x = y ∧ chErr true (ts.map CV.c) x = 0) ∧ u.length ≤ 4096 ∧ y.length ≤ 4096 ∧ (chRes true ((l.take k).map CV.c) x = u ∧ chErr true ((l.take k).map CV.c) x = 0) ∧ (chRes true ((l.drop k).map CV.c) u = y ∧ chErr true ((l.drop k).map CV.c) u = 0) ∧
        (chRes false (l.map CV.c) y = x ∧ chErr false (l.map CV.c) y = 0) ∧ (chRes false ((l.drop k).map CV.c) y = u ∧ chErr false ((l.drop k).map CV.c) y = 0) ∧ (chRes false ((l.take k).map CV.c) u = x ∧ chErr false ((l.take k).map CV.c) u = 0))) := Lib.hid (by
    have hckt := fun (u : List Int) (h : chS true ((l.take k).map CV.c) x = some u) => chS_ck hsg h
    cases hY : chS true (l.map CV.c) x with
    | none =>
      obtain ⟨q1, q2⟩ := many_none (d := true) ec hY
      rw [hY] at hidle hcat
      have q3 : ∀ ts : List CV, ts.map CV.c = (l.take k).map CV.c ++ idleC si :: (l.drop k).map CV.c → chRes true (ts.map CV.c) x = [] ∧ chErr true (ts.map CV.c) x = 4 := fun ts hts => by rw [hts]; exact many_none (d := true) (chEr_mk cm hsg) hidle
      cases hU : chS true ((l.take k).map CV.c) x with
      | none =>
        obtain ⟨q4, q5⟩ := many_none (d := true) (chEr_mk ct hsg) hU
        exact .inl ⟨by rw [← hyv, q1], by rw [← hye, q2], q3, q4, q5⟩
      | some u =>
        rw [hU] at hcat
        exact .inr (.inl ⟨u, by rw [← hyv, q1], by rw [← hye, q2], q3, (ckX_ok (hckt u hU)).1, many_some (d := true) (chEr_mk ct hsg) hU, many_none (d := true) (chEr_mk cd (hckt u hU)) hcat.symm⟩)
    | some y =>
      obtain ⟨q1, q2⟩ := many_some (d := true) ec hY
      rw [hY] at hidle hcat
      have q3 : ∀ ts : List CV, ts.map CV.c = (l.take k).map CV.c ++ idleC si :: (l.drop k).map CV.c → chRes true (ts.map CV.c) x = y ∧ chErr true (ts.map CV.c) x = 0 := fun ts hts => by rw [hts]; exact many_some (d := true) (chEr_mk cm hsg) hidle
      cases hU : chS true ((l.take k).map CV.c) x with
      | none => rw [hU] at hcat; cases hcat
      | some u =>
        rw [hU] at hcat
        have hyc := chS_ck hsg hY
        have huc := hckt u hU
        exact .inr (.inr ⟨u, y, by rw [← hyv, q1], by rw [← hye, q2], q3, (ckX_ok huc).1, (ckX_ok hyc).1, many_some (d := true) (chEr_mk ct hsg) hU, many_some (d := true) (chEr_mk cd huc) hcat.symm,
          many_some (d := false) (chEr_mk hcc hyc) (chS_back hsg hY), many_some (d := false) (chEr_mk cd hyc) (chS_back huc hcat.symm), many_some (d := false) (chEr_mk ct huc) (chS_back hsg hU)⟩))
  have hyl : yv.length ≤ 4096 := by
    rcases HMATH.out with ⟨e, _⟩ | ⟨u, e, _⟩ | ⟨u, y, e, _, _, _, h, _⟩
    · rw [e]; simp
    · rw [e]; simp
    · rw [e]; exact h
  clear hmm hcc hsg hck hmap ec ct cd cm hidle hcat hyv hye
  have HB := Lib.hid (Below.refl w.heap.size w)
  go_enter Try.func10, Try.ntmps10
  go_wp2_with fail
  have CALL := refCheckChain_any w.heap.size A n ka l w (HC.out.more (by omega)) (Nat.le_refl _) (by omega) hs
  rw [HCC.out] at CALL
  refine CALL.mono ?_
  rintro e w1 ⟨rfl, hb⟩
  clear CALL
  have hsz1 := hb.size
  replace HC := Lib.hid (HC.out.below hb (by omega))
  replace HX := Lib.hid (HX.out.below hb (by omega))
  replace HCT := Lib.hid (HCT.out.below hb (by omega))
  replace HCD := Lib.hid (HCD.out.below hb (by omega))
  replace HB := Lib.hid (HB.out.trans (hb.mono (by omega)))

  clear hb
  go_wp2_with fail
  have CALL := refSignal_any w1.heap.size Ax nx kx x w1 (HX.out.more (by omega)) (by omega)
  rw [HSG.out] at CALL
  refine CALL.mono ?_
  rintro e w_ ⟨rfl, rfl⟩
  clear CALL
  go_wp2_with fail
  have CALL := ApplyAll_any w1.heap.size A n ka l Ax nx kx x w1 (HC.out.more (by omega)) (HX.out.more (by omega)) (Nat.le_refl _) (by omega) (by omega) hs
  rw [EYV.out.1, EYV.out.2] at CALL
  refine CALL.mono ?_
  rintro e w2 ⟨v, rfl, ho, hb⟩
  clear CALL
  have hsz2 := hb.size
  replace HC := Lib.hid (HC.out.below hb (by omega))
  replace HX := Lib.hid (HX.out.below hb (by omega))
  replace HCT := Lib.hid (HCT.out.below hb (by omega))
  replace HCD := Lib.hid (HCD.out.below hb (by omega))
  replace HB := Lib.hid (HB.out.trans (hb.mono (by omega)))
  obtain ⟨AY, cY, rfl, hL⟩ := li_own ho
  have HY := Lib.hid hL
  clear ho hL
  clear hb
  go_upto_region 6 with fail
  try rw [hsi]
  obtain ⟨w3, hV⟩ : ∃ W, (((w2.alloc (.cells #[.int .i64 0, .int .i64 0] 2)).alloc (.cells #[.int .i64 0] 2)).alloc (.cells #[.slice (some ⟨w2.heap.size, 0, none⟩) 2 2, .slice (some ⟨w2.heap.size + 1, 0, none⟩) 1 1, .int .i64 si] 24)) = W := ⟨_, rfl⟩
  have hb : Below w2.heap.size w2 w3 := by rw [← hV]; exact (((Below.refl _ _).alloc (Nat.le_refl _) _).alloc (by simp) _).alloc (by simp <;> omega) _
  have hszV : w2.heap.size + 1 + 1 < w3.heap.size := by rw [← hV]; simp
  have b0 : Blk w3 w2.heap.size 2 #[.int .i64 0, .int .i64 0] := by rw [← hV]; exact ((Blk.new _ _ _).alloc _).alloc _
  have b1 : Blk w3 (w2.heap.size + 1) 2 #[.int .i64 0] := by rw [← hV]; exact (blk_al (by simp)).alloc _
  have HG : Hid (Blk w3 (w2.heap.size + 1 + 1) 24 #[.slice (some ⟨w2.heap.size, 0, none⟩) 2 2, .slice (some ⟨w2.heap.size + 1, 0, none⟩) 1 1, .int .i64 si]) := Lib.hid (by rw [← hV]; exact blk_al (by simp))
  have HTI : Hid (CI w3 w3.heap.size (⟨some ⟨w2.heap.size, 0, none⟩, 2, 2, some ⟨w2.heap.size + 1, 0, none⟩, 1, 1, idleC si⟩ : CV)) := Lib.hid ⟨li_blk b0 (by omega) rfl rfl, li_blk b1 (by omega) rfl rfl⟩
  replace HC := Lib.hid (HC.out.below hb (by omega))
  replace HX := Lib.hid (HX.out.below hb (by omega))
  replace HCT := Lib.hid (HCT.out.below hb (by omega))
  replace HCD := Lib.hid (HCD.out.below hb (by omega))
  replace HY := Lib.hid (HY.out.below hb (by omega))
  replace HB := Lib.hid (HB.out.trans (hb.mono (by omega)))
  rw [hV]
  clear hb hV b0 b1
  obtain ⟨gf, hgf⟩ : ∃ g, w2.heap.size = g := ⟨_, rfl⟩
  rw [hgf] at HG HTI hszV ⊢
  go_cut [13] (fun s13 wx => ∃ (AM : Option Addr) (cM : Nat), s13 = .slice AM (n + 1) cM ∧ Hid (RC wx wx.heap.size AM (n + 1) (l.take k ++ (⟨some ⟨gf, 0, none⟩, 2, 2, some ⟨gf + 1, 0, none⟩, 1, 1, idleC si⟩ : CV) :: l.drop k)) ∧ Hid (Below w3.heap.size w3 wx))
  case first =>
    have HRV := Lib.hid (HC.out.more (B' := w3.heap.size) (by omega))
    have HTK := Lib.hid (HRV.out.take k hkn)
    have HDK := Lib.hid (HRV.out.drop k hkn hka)
    have hgV : gf + 1 + 1 < w3.heap.size := by omega
    obtain ⟨g0, g1, g2⟩ := HG.out.three_
    obtain ⟨d0, d1, d2⟩ := HG.out.drew.three_
    obtain ⟨q0, q1, q2⟩ := (HG.out.alloc (.cells #[] 24)).drew.three_
    go_region_law (first | (refine step_append_any _ rfl (.tmp 58) (.tmp 61) 26 rfl w3.heap.size 24 i0 _ 3 56 Try.underlying26 HI0.out HZ0.out HZ1.out HZ2.out rfl (by omega) (.slice (some ⟨w3.heap.size, 0, none⟩) 0 0) 0 ([]) rfl (rw_a w3).own w3.heap.size A k ka (cvCells (l.take k)) rfl (HTK.out.below (rw_a w3).bel (Nat.le_refl _)).2.1 (cv_one _) (by unfold maxLen; omega) (by omega) (rw_a w3).bel.size ?_; intro v1 wA hown hgrow hblk; simp only [Nat.zero_add, List.nil_append] at hown; have hr1 := (rw_a w3).grow hgrow hown; obtain ⟨A1, c1, rfl, -⟩ := own_reads hown; have HR1 := Lib.hid hr1; obtain ⟨p0, p1, p2⟩ := (HG.out.below HR1.out.bel (by omega)).three_; clear hown hgrow hblk hr1) | (refine step_append_any _ rfl (.tmp 58) (.tmp 61) 26 rfl w3.heap.size 24 i0 _ 3 56 Try.underlying26 HI0.out HZ0.out HZ1.out HZ2.out rfl (by omega) (.slice (some ⟨w3.heap.size, 0, none⟩) 0 0) 0 ([]) rfl (rw_b w3 (.cells #[.slice (some ⟨gf, 0, none⟩) 2 2, .slice (some ⟨gf + 1, 0, none⟩) 1 1, .int .i64 si] 24)).own w3.heap.size A k ka (cvCells (l.take k)) rfl (HTK.out.below (rw_b w3 (.cells #[.slice (some ⟨gf, 0, none⟩) 2 2, .slice (some ⟨gf + 1, 0, none⟩) 1 1, .int .i64 si] 24)).bel (Nat.le_refl _)).2.1 (cv_one _) (by unfold maxLen; omega) (by omega) (rw_b w3 (.cells #[.slice (some ⟨gf, 0, none⟩) 2 2, .slice (some ⟨gf + 1, 0, none⟩) 1 1, .int .i64 si] 24)).bel.size ?_; intro v1 wA hown hgrow hblk; simp only [Nat.zero_add, List.nil_append] at hown; have hr1 := (rw_b w3 (.cells #[.slice (some ⟨gf, 0, none⟩) 2 2, .slice (some ⟨gf + 1, 0, none⟩) 1 1, .int .i64 si] 24)).grow hgrow hown; have HK1 : Hid (Blk wA (w3.heap.size + 1) 24 #[.slice (some ⟨gf, 0, none⟩) 2 2, .slice (some ⟨gf + 1, 0, none⟩) 1 1, .int .i64 si]) := Lib.hid (Blk.grown ((blk_al (by simp)).drew) hgrow (by simp [Value.ownBlock] <;> omega)); obtain ⟨A1, c1, rfl, -⟩ := own_reads hown; have HR1 := Lib.hid hr1; obtain ⟨p0, p1, p2⟩ := (HG.out.below HR1.out.bel (by omega)).three_; clear hown hgrow hblk hr1) | (refine step_append_any _ rfl (.tmp 58) (.tmp 61) 26 rfl w3.heap.size 24 i0 _ 3 56 Try.underlying26 HI0.out HZ0.out HZ1.out HZ2.out rfl (by omega) (.slice (some ⟨w3.heap.size + 1, 0, none⟩) 0 0) 0 ([]) rfl (rw_c w3 (.cells #[.slice (some ⟨gf, 0, none⟩) 2 2, .slice (some ⟨gf + 1, 0, none⟩) 1 1, .int .i64 si] 24)).own w3.heap.size A k ka (cvCells (l.take k)) rfl (HTK.out.below (rw_c w3 (.cells #[.slice (some ⟨gf, 0, none⟩) 2 2, .slice (some ⟨gf + 1, 0, none⟩) 1 1, .int .i64 si] 24)).bel (Nat.le_refl _)).2.1 (cv_one _) (by unfold maxLen; omega) (by omega) (rw_c w3 (.cells #[.slice (some ⟨gf, 0, none⟩) 2 2, .slice (some ⟨gf + 1, 0, none⟩) 1 1, .int .i64 si] 24)).bel.size ?_; intro v1 wA hown hgrow hblk; simp only [Nat.zero_add, List.nil_append] at hown; have hr1 := (rw_c w3 (.cells #[.slice (some ⟨gf, 0, none⟩) 2 2, .slice (some ⟨gf + 1, 0, none⟩) 1 1, .int .i64 si] 24)).grow hgrow hown; have HK1 : Hid (Blk wA w3.heap.size 24 #[.slice (some ⟨gf, 0, none⟩) 2 2, .slice (some ⟨gf + 1, 0, none⟩) 1 1, .int .i64 si]) := Lib.hid (Blk.grown (((blk_al rfl).alloc _).drew) hgrow (by simp [Value.ownBlock] <;> omega)); obtain ⟨A1, c1, rfl, -⟩ := own_reads hown; have HR1 := Lib.hid hr1; obtain ⟨p0, p1, p2⟩ := (HG.out.below HR1.out.bel (by omega)).three_; clear hown hgrow hblk hr1) | (refine step_append_any _ rfl (.tmp 62) (.tmp 64) 26 rfl w3.heap.size 24 i0 _ 3 56 Try.underlying26 HI0.out HZ0.out HZ1.out HZ2.out rfl (by omega) (.slice A1 k c1) k (cvCells (l.take k)) rfl (HR1.out.al (.cells #[.slice (some ⟨gf, 0, none⟩) 2 2, .slice (some ⟨gf + 1, 0, none⟩) 1 1, .int .i64 si] 24)).own _ _ 1 1 (cvCells [(⟨some ⟨gf, 0, none⟩, 2, 2, some ⟨gf + 1, 0, none⟩, 1, 1, idleC si⟩ : CV)]) rfl (reads_cells (B := wA.heap.size + 1) (blk_al rfl) (Nat.lt_succ_self _) rfl rfl) (cv_one _) (by unfold maxLen; omega) (by omega) (HR1.out.al (.cells #[.slice (some ⟨gf, 0, none⟩) 2 2, .slice (some ⟨gf + 1, 0, none⟩) 1 1, .int .i64 si] 24)).bel.size ?_; intro v2 wB hown hgrow hblk; have hr2 := (HR1.out.al (.cells #[.slice (some ⟨gf, 0, none⟩) 2 2, .slice (some ⟨gf + 1, 0, none⟩) 1 1, .int .i64 si] 24)).grow hgrow hown; obtain ⟨A2, c2, rfl, -⟩ := own_reads hown; have HR2 := Lib.hid hr2; clear hown hgrow hblk hr2) | (refine step_append_any _ rfl (.tmp 62) (.tmp 64) 26 rfl w3.heap.size 24 i0 _ 3 56 Try.underlying26 HI0.out HZ0.out HZ1.out HZ2.out rfl (by omega) (.slice A1 k c1) k (cvCells (l.take k)) rfl HR1.out.own _ _ 1 1 (cvCells [(⟨some ⟨gf, 0, none⟩, 2, 2, some ⟨gf + 1, 0, none⟩, 1, 1, idleC si⟩ : CV)]) rfl (reads_cells (B := wA.heap.size) HK1.out HK1.out.lt rfl rfl) (cv_one _) (by unfold maxLen; omega) (by omega) HR1.out.bel.size ?_; intro v2 wB hown hgrow hblk; have hr2 := HR1.out.grow hgrow hown; obtain ⟨A2, c2, rfl, -⟩ := own_reads hown; have HR2 := Lib.hid hr2; clear hown hgrow hblk hr2) | (refine step_append_any _ rfl (.tmp 65) (.tmp 68) 26 rfl w3.heap.size 24 i0 _ 3 56 Try.underlying26 HI0.out HZ0.out HZ1.out HZ2.out rfl (by omega) (.slice A2 (k + 1) c2) (k + 1) (cvCells (l.take k) ++ cvCells [(⟨some ⟨gf, 0, none⟩, 2, 2, some ⟨gf + 1, 0, none⟩, 1, 1, idleC si⟩ : CV)]) rfl HR2.out.own w3.heap.size (restC A ka k) (n - k) (ka - k) (cvCells (l.drop k)) rfl (HDK.out.below HR2.out.bel (Nat.le_refl _)).2.1 (cv_one _) (by unfold maxLen; omega) (by omega) HR2.out.bel.size ?_; intro v3 wC hown hgrow hblk; have hr3 := HR2.out.grow hgrow hown; have HBC := Lib.hid hr3.bel; obtain ⟨AM, cM, rfl, hM⟩ := more_rc HRV.out HTI.out hr3 hkn; have HM := Lib.hid hM; clear hown hgrow hblk hr3 hM))
    all_goals
      go_wp2_with fail
      go_meet
      exact ⟨AM, cM, rfl, HM, HBC⟩
  case rest =>
    obtain ⟨AM, cM, rfl, HM, hb⟩ := hcut
    obtain ⟨w4, hw_⟩ : ∃ W, W = wc := ⟨_, rfl⟩
    subst hw_
    have hb := hb.out
    have hsz4 := hb.size
    replace HC := Lib.hid (HC.out.below hb (by omega))
    replace HX := Lib.hid (HX.out.below hb (by omega))
    replace HCT := Lib.hid (HCT.out.below hb (by omega))
    replace HCD := Lib.hid (HCD.out.below hb (by omega))
    replace HY := Lib.hid (HY.out.below hb (by omega))
    replace HB := Lib.hid (HB.out.trans (hb.mono (by omega)))
    clear hb
    have hsm : CSm (l.take k ++ (⟨some ⟨gf, 0, none⟩, 2, 2, some ⟨gf + 1, 0, none⟩, 1, 1, idleC si⟩ : CV) :: l.drop k) := fun t ht => by
      rcases List.mem_append.1 ht with ht | ht
      · exact hs.take k t ht
      · rcases List.mem_cons.1 ht with rfl | ht
        · exact ⟨by show (2 : Nat) ≤ _; omega, by show (1 : Nat) ≤ _; omega⟩
        · exact hs.drop k t ht
    clear EYV
    rcases HMATH.out with ⟨rfl, rfl, hz, hu⟩ | ⟨u, rfl, rfl, hz, hul, hu, hu2⟩ | ⟨u, y, rfl, rfl, hz, hul, hyl2, hu, hu2, hb1, hv1, hw1⟩
    · have EZ := Lib.hid (hz (l.take k ++ (⟨some ⟨gf, 0, none⟩, 2, 2, some ⟨gf + 1, 0, none⟩, 1, 1, idleC si⟩ : CV) :: l.drop k) (by simp))
      have EU := Lib.hid hu
      have SYY := Lib.hid (sameI_self ([] : List Int))
      clear hz hu HMATH
      as_aux_lemma =>
        go_wp2_with fail
        have CALL := ApplyAll_any w4.heap.size AM (n + 1) cM (l.take k ++ (⟨some ⟨gf, 0, none⟩, 2, 2, some ⟨gf + 1, 0, none⟩, 1, 1, idleC si⟩ : CV) :: l.drop k) Ax nx kx x w4 (HM.out.more (by omega)) (HX.out.more (by omega)) (Nat.le_refl _) (by omega) (by omega) hsm
        rw [EZ.out.1, EZ.out.2] at CALL
        refine CALL.mono ?_
        rintro e w5 ⟨v, rfl, ho, hb⟩
        clear CALL
        have hsz5 := hb.size
        replace HC := Lib.hid (HC.out.below hb (by omega))
        replace HX := Lib.hid (HX.out.below hb (by omega))
        replace HCT := Lib.hid (HCT.out.below hb (by omega))
        replace HCD := Lib.hid (HCD.out.below hb (by omega))
        replace HY := Lib.hid (HY.out.below hb (by omega))
        replace HM := Lib.hid (HM.out.below hb (by omega))
        replace HB := Lib.hid (HB.out.trans (hb.mono (by omega)))
        obtain ⟨AZ, cZ, rfl, hL⟩ := li_own ho
        have HZ := Lib.hid hL
        clear ho hL
        clear hb
        go_wp2_with fail
        have CALL := refSame_any w5.heap.size AY AZ ([] : List Int).length cY ([] : List Int).length cZ ([] : List Int) ([] : List Int) w5 (HY.out.more (by omega)) (HZ.out.more (by omega)) (Nat.le_refl _) (by omega) (by omega)
        rw [SYY.out] at CALL
        refine CALL.mono ?_
        rintro e w6 ⟨rfl, hb⟩
        clear CALL
        have hsz6 := hb.size
        replace HC := Lib.hid (HC.out.below hb (by omega))
        replace HX := Lib.hid (HX.out.below hb (by omega))
        replace HCT := Lib.hid (HCT.out.below hb (by omega))
        replace HCD := Lib.hid (HCD.out.below hb (by omega))
        replace HY := Lib.hid (HY.out.below hb (by omega))
        replace HM := Lib.hid (HM.out.below hb (by omega))
        replace HZ := Lib.hid (HZ.out.below hb (by omega))
        replace HB := Lib.hid (HB.out.trans (hb.mono (by omega)))

        clear hb
        go_wp2_with fail
        have CALL := ApplyAll_any w6.heap.size A k ka (l.take k) Ax nx kx x w6 (HCT.out.more (by omega)) (HX.out.more (by omega)) (Nat.le_refl _) (by omega) (by omega) (hs.take k)
        rw [EU.out.1, EU.out.2] at CALL
        refine CALL.mono ?_
        rintro e w7 ⟨v, rfl, ho, hb⟩
        clear CALL
        have hsz7 := hb.size
        replace HC := Lib.hid (HC.out.below hb (by omega))
        replace HX := Lib.hid (HX.out.below hb (by omega))
        replace HCT := Lib.hid (HCT.out.below hb (by omega))
        replace HCD := Lib.hid (HCD.out.below hb (by omega))
        replace HY := Lib.hid (HY.out.below hb (by omega))
        replace HM := Lib.hid (HM.out.below hb (by omega))
        replace HZ := Lib.hid (HZ.out.below hb (by omega))
        replace HB := Lib.hid (HB.out.trans (hb.mono (by omega)))
        obtain ⟨AU, cU, rfl, hL⟩ := li_own ho
        have HU := Lib.hid hL
        clear ho hL
        clear hb
        go_wp2_with fail
        have CALL := refSame_any w7.heap.size AY AU ([] : List Int).length cY ([] : List Int).length cU ([] : List Int) ([] : List Int) w7 (HY.out.more (by omega)) (HU.out.more (by omega)) (Nat.le_refl _) (by omega) (by omega)
        rw [SYY.out] at CALL
        refine CALL.mono ?_
        rintro e w8 ⟨rfl, hb⟩
        clear CALL
        have hsz8 := hb.size
        replace HC := Lib.hid (HC.out.below hb (by omega))
        replace HX := Lib.hid (HX.out.below hb (by omega))
        replace HCT := Lib.hid (HCT.out.below hb (by omega))
        replace HCD := Lib.hid (HCD.out.below hb (by omega))
        replace HY := Lib.hid (HY.out.below hb (by omega))
        replace HM := Lib.hid (HM.out.below hb (by omega))
        replace HZ := Lib.hid (HZ.out.below hb (by omega))
        replace HU := Lib.hid (HU.out.below hb (by omega))
        replace HB := Lib.hid (HB.out.trans (hb.mono (by omega)))

        clear hb
        go_wp2_with fail
        have CALL := works_any w8
        refine CALL.mono ?_
        rintro e w9 ⟨rfl, hb⟩
        clear CALL
        have hsz9 := hb.size
        replace HC := Lib.hid (HC.out.below hb (by omega))
        replace HX := Lib.hid (HX.out.below hb (by omega))
        replace HCT := Lib.hid (HCT.out.below hb (by omega))
        replace HCD := Lib.hid (HCD.out.below hb (by omega))
        replace HY := Lib.hid (HY.out.below hb (by omega))
        replace HM := Lib.hid (HM.out.below hb (by omega))
        replace HZ := Lib.hid (HZ.out.below hb (by omega))
        replace HU := Lib.hid (HU.out.below hb (by omega))
        replace HB := Lib.hid (HB.out.trans (hb.mono (by omega)))

        clear hb
        go_wp2
        go_ret
        exact ⟨rfl, HB.out⟩
    · have EZ := Lib.hid (hz (l.take k ++ (⟨some ⟨gf, 0, none⟩, 2, 2, some ⟨gf + 1, 0, none⟩, 1, 1, idleC si⟩ : CV) :: l.drop k) (by simp))
      have EU := Lib.hid hu
      have EU2 := Lib.hid hu2
      have SYY := Lib.hid (sameI_self ([] : List Int))
      clear hz hu hu2 HMATH
      as_aux_lemma =>
        go_wp2_with fail
        have CALL := ApplyAll_any w4.heap.size AM (n + 1) cM (l.take k ++ (⟨some ⟨gf, 0, none⟩, 2, 2, some ⟨gf + 1, 0, none⟩, 1, 1, idleC si⟩ : CV) :: l.drop k) Ax nx kx x w4 (HM.out.more (by omega)) (HX.out.more (by omega)) (Nat.le_refl _) (by omega) (by omega) hsm
        rw [EZ.out.1, EZ.out.2] at CALL
        refine CALL.mono ?_
        rintro e w5 ⟨v, rfl, ho, hb⟩
        clear CALL
        have hsz5 := hb.size
        replace HC := Lib.hid (HC.out.below hb (by omega))
        replace HX := Lib.hid (HX.out.below hb (by omega))
        replace HCT := Lib.hid (HCT.out.below hb (by omega))
        replace HCD := Lib.hid (HCD.out.below hb (by omega))
        replace HY := Lib.hid (HY.out.below hb (by omega))
        replace HM := Lib.hid (HM.out.below hb (by omega))
        replace HB := Lib.hid (HB.out.trans (hb.mono (by omega)))
        obtain ⟨AZ, cZ, rfl, hL⟩ := li_own ho
        have HZ := Lib.hid hL
        clear ho hL
        clear hb
        go_wp2_with fail
        have CALL := refSame_any w5.heap.size AY AZ ([] : List Int).length cY ([] : List Int).length cZ ([] : List Int) ([] : List Int) w5 (HY.out.more (by omega)) (HZ.out.more (by omega)) (Nat.le_refl _) (by omega) (by omega)
        rw [SYY.out] at CALL
        refine CALL.mono ?_
        rintro e w6 ⟨rfl, hb⟩
        clear CALL
        have hsz6 := hb.size
        replace HC := Lib.hid (HC.out.below hb (by omega))
        replace HX := Lib.hid (HX.out.below hb (by omega))
        replace HCT := Lib.hid (HCT.out.below hb (by omega))
        replace HCD := Lib.hid (HCD.out.below hb (by omega))
        replace HY := Lib.hid (HY.out.below hb (by omega))
        replace HM := Lib.hid (HM.out.below hb (by omega))
        replace HZ := Lib.hid (HZ.out.below hb (by omega))
        replace HB := Lib.hid (HB.out.trans (hb.mono (by omega)))

        clear hb
        go_wp2_with fail
        have CALL := ApplyAll_any w6.heap.size A k ka (l.take k) Ax nx kx x w6 (HCT.out.more (by omega)) (HX.out.more (by omega)) (Nat.le_refl _) (by omega) (by omega) (hs.take k)
        rw [EU.out.1, EU.out.2] at CALL
        refine CALL.mono ?_
        rintro e w7 ⟨v, rfl, ho, hb⟩
        clear CALL
        have hsz7 := hb.size
        replace HC := Lib.hid (HC.out.below hb (by omega))
        replace HX := Lib.hid (HX.out.below hb (by omega))
        replace HCT := Lib.hid (HCT.out.below hb (by omega))
        replace HCD := Lib.hid (HCD.out.below hb (by omega))
        replace HY := Lib.hid (HY.out.below hb (by omega))
        replace HM := Lib.hid (HM.out.below hb (by omega))
        replace HZ := Lib.hid (HZ.out.below hb (by omega))
        replace HB := Lib.hid (HB.out.trans (hb.mono (by omega)))
        obtain ⟨AU, cU, rfl, hL⟩ := li_own ho
        have HU := Lib.hid hL
        clear ho hL
        clear hb
        go_wp2_with fail
        have CALL := ApplyAll_any w7.heap.size (restC A ka k) (n - k) (ka - k) (l.drop k) AU u.length cU u w7 (HCD.out.more (by omega)) (HU.out.more (by omega)) (Nat.le_refl _) (by omega) (by omega) (hs.drop k)
        rw [EU2.out.1, EU2.out.2] at CALL
        refine CALL.mono ?_
        rintro e w8 ⟨v, rfl, ho, hb⟩
        clear CALL
        have hsz8 := hb.size
        replace HC := Lib.hid (HC.out.below hb (by omega))
        replace HX := Lib.hid (HX.out.below hb (by omega))
        replace HCT := Lib.hid (HCT.out.below hb (by omega))
        replace HCD := Lib.hid (HCD.out.below hb (by omega))
        replace HY := Lib.hid (HY.out.below hb (by omega))
        replace HM := Lib.hid (HM.out.below hb (by omega))
        replace HZ := Lib.hid (HZ.out.below hb (by omega))
        replace HU := Lib.hid (HU.out.below hb (by omega))
        replace HB := Lib.hid (HB.out.trans (hb.mono (by omega)))
        obtain ⟨AT, cT, rfl, hL⟩ := li_own ho
        have HT := Lib.hid hL
        clear ho hL
        clear hb
        go_wp2_with fail
        have CALL := refSame_any w8.heap.size AY AT ([] : List Int).length cY ([] : List Int).length cT ([] : List Int) ([] : List Int) w8 (HY.out.more (by omega)) (HT.out.more (by omega)) (Nat.le_refl _) (by omega) (by omega)
        rw [SYY.out] at CALL
        refine CALL.mono ?_
        rintro e w9 ⟨rfl, hb⟩
        clear CALL
        have hsz9 := hb.size
        replace HC := Lib.hid (HC.out.below hb (by omega))
        replace HX := Lib.hid (HX.out.below hb (by omega))
        replace HCT := Lib.hid (HCT.out.below hb (by omega))
        replace HCD := Lib.hid (HCD.out.below hb (by omega))
        replace HY := Lib.hid (HY.out.below hb (by omega))
        replace HM := Lib.hid (HM.out.below hb (by omega))
        replace HZ := Lib.hid (HZ.out.below hb (by omega))
        replace HU := Lib.hid (HU.out.below hb (by omega))
        replace HT := Lib.hid (HT.out.below hb (by omega))
        replace HB := Lib.hid (HB.out.trans (hb.mono (by omega)))

        clear hb
        go_wp2_with fail
        have CALL := works_any w9
        refine CALL.mono ?_
        rintro e w10 ⟨rfl, hb⟩
        clear CALL
        have hsz10 := hb.size
        replace HC := Lib.hid (HC.out.below hb (by omega))
        replace HX := Lib.hid (HX.out.below hb (by omega))
        replace HCT := Lib.hid (HCT.out.below hb (by omega))
        replace HCD := Lib.hid (HCD.out.below hb (by omega))
        replace HY := Lib.hid (HY.out.below hb (by omega))
        replace HM := Lib.hid (HM.out.below hb (by omega))
        replace HZ := Lib.hid (HZ.out.below hb (by omega))
        replace HU := Lib.hid (HU.out.below hb (by omega))
        replace HT := Lib.hid (HT.out.below hb (by omega))
        replace HB := Lib.hid (HB.out.trans (hb.mono (by omega)))

        clear hb
        go_wp2
        go_ret
        exact ⟨rfl, HB.out⟩
    · have EZ := Lib.hid (hz (l.take k ++ (⟨some ⟨gf, 0, none⟩, 2, 2, some ⟨gf + 1, 0, none⟩, 1, 1, idleC si⟩ : CV) :: l.drop k) (by simp))
      have EU := Lib.hid hu
      have EU2 := Lib.hid hu2
      have EB := Lib.hid hb1
      have EV := Lib.hid hv1
      have EW := Lib.hid hw1
      have SYY := Lib.hid (sameI_self yv)
      clear hz hu hu2 hb1 hv1 hw1 HMATH
      as_aux_lemma =>
        go_wp2_with fail
        have CALL := ApplyAll_any w4.heap.size AM (n + 1) cM (l.take k ++ (⟨some ⟨gf, 0, none⟩, 2, 2, some ⟨gf + 1, 0, none⟩, 1, 1, idleC si⟩ : CV) :: l.drop k) Ax nx kx x w4 (HM.out.more (by omega)) (HX.out.more (by omega)) (Nat.le_refl _) (by omega) (by omega) hsm
        rw [EZ.out.1, EZ.out.2] at CALL
        refine CALL.mono ?_
        rintro e w5 ⟨v, rfl, ho, hb⟩
        clear CALL
        have hsz5 := hb.size
        replace HC := Lib.hid (HC.out.below hb (by omega))
        replace HX := Lib.hid (HX.out.below hb (by omega))
        replace HCT := Lib.hid (HCT.out.below hb (by omega))
        replace HCD := Lib.hid (HCD.out.below hb (by omega))
        replace HY := Lib.hid (HY.out.below hb (by omega))
        replace HM := Lib.hid (HM.out.below hb (by omega))
        replace HB := Lib.hid (HB.out.trans (hb.mono (by omega)))
        obtain ⟨AZ, cZ, rfl, hL⟩ := li_own ho
        have HZ := Lib.hid hL
        clear ho hL
        clear hb
        go_wp2_with fail
        have CALL := refSame_any w5.heap.size AY AZ yv.length cY yv.length cZ yv yv w5 (HY.out.more (by omega)) (HZ.out.more (by omega)) (Nat.le_refl _) (by omega) (by omega)
        rw [SYY.out] at CALL
        refine CALL.mono ?_
        rintro e w6 ⟨rfl, hb⟩
        clear CALL
        have hsz6 := hb.size
        replace HC := Lib.hid (HC.out.below hb (by omega))
        replace HX := Lib.hid (HX.out.below hb (by omega))
        replace HCT := Lib.hid (HCT.out.below hb (by omega))
        replace HCD := Lib.hid (HCD.out.below hb (by omega))
        replace HY := Lib.hid (HY.out.below hb (by omega))
        replace HM := Lib.hid (HM.out.below hb (by omega))
        replace HZ := Lib.hid (HZ.out.below hb (by omega))
        replace HB := Lib.hid (HB.out.trans (hb.mono (by omega)))

        clear hb
        go_wp2_with fail
        have CALL := ApplyAll_any w6.heap.size A k ka (l.take k) Ax nx kx x w6 (HCT.out.more (by omega)) (HX.out.more (by omega)) (Nat.le_refl _) (by omega) (by omega) (hs.take k)
        rw [EU.out.1, EU.out.2] at CALL
        refine CALL.mono ?_
        rintro e w7 ⟨v, rfl, ho, hb⟩
        clear CALL
        have hsz7 := hb.size
        replace HC := Lib.hid (HC.out.below hb (by omega))
        replace HX := Lib.hid (HX.out.below hb (by omega))
        replace HCT := Lib.hid (HCT.out.below hb (by omega))
        replace HCD := Lib.hid (HCD.out.below hb (by omega))
        replace HY := Lib.hid (HY.out.below hb (by omega))
        replace HM := Lib.hid (HM.out.below hb (by omega))
        replace HZ := Lib.hid (HZ.out.below hb (by omega))
        replace HB := Lib.hid (HB.out.trans (hb.mono (by omega)))
        obtain ⟨AU, cU, rfl, hL⟩ := li_own ho
        have HU := Lib.hid hL
        clear ho hL
        clear hb
        go_wp2_with fail
        have CALL := ApplyAll_any w7.heap.size (restC A ka k) (n - k) (ka - k) (l.drop k) AU u.length cU u w7 (HCD.out.more (by omega)) (HU.out.more (by omega)) (Nat.le_refl _) (by omega) (by omega) (hs.drop k)
        rw [EU2.out.1, EU2.out.2] at CALL
        refine CALL.mono ?_
        rintro e w8 ⟨v, rfl, ho, hb⟩
        clear CALL
        have hsz8 := hb.size
        replace HC := Lib.hid (HC.out.below hb (by omega))
        replace HX := Lib.hid (HX.out.below hb (by omega))
        replace HCT := Lib.hid (HCT.out.below hb (by omega))
        replace HCD := Lib.hid (HCD.out.below hb (by omega))
        replace HY := Lib.hid (HY.out.below hb (by omega))
        replace HM := Lib.hid (HM.out.below hb (by omega))
        replace HZ := Lib.hid (HZ.out.below hb (by omega))
        replace HU := Lib.hid (HU.out.below hb (by omega))
        replace HB := Lib.hid (HB.out.trans (hb.mono (by omega)))
        obtain ⟨AT, cT, rfl, hL⟩ := li_own ho
        have HT := Lib.hid hL
        clear ho hL
        clear hb
        go_wp2_with fail
        have CALL := refSame_any w8.heap.size AY AT yv.length cY yv.length cT yv yv w8 (HY.out.more (by omega)) (HT.out.more (by omega)) (Nat.le_refl _) (by omega) (by omega)
        rw [SYY.out] at CALL
        refine CALL.mono ?_
        rintro e w9 ⟨rfl, hb⟩
        clear CALL
        have hsz9 := hb.size
        replace HC := Lib.hid (HC.out.below hb (by omega))
        replace HX := Lib.hid (HX.out.below hb (by omega))
        replace HCT := Lib.hid (HCT.out.below hb (by omega))
        replace HCD := Lib.hid (HCD.out.below hb (by omega))
        replace HY := Lib.hid (HY.out.below hb (by omega))
        replace HM := Lib.hid (HM.out.below hb (by omega))
        replace HZ := Lib.hid (HZ.out.below hb (by omega))
        replace HU := Lib.hid (HU.out.below hb (by omega))
        replace HT := Lib.hid (HT.out.below hb (by omega))
        replace HB := Lib.hid (HB.out.trans (hb.mono (by omega)))

        clear hb
        go_wp2_with fail
        have CALL := UndoAll_any w9.heap.size A n ka l AY yv.length cY yv w9 (HC.out.more (by omega)) (HY.out.more (by omega)) (Nat.le_refl _) (by omega) (by omega) hs
        rw [EB.out.1, EB.out.2] at CALL
        refine CALL.mono ?_
        rintro e w10 ⟨v, rfl, ho, hb⟩
        clear CALL
        have hsz10 := hb.size
        replace HC := Lib.hid (HC.out.below hb (by omega))
        replace HX := Lib.hid (HX.out.below hb (by omega))
        replace HCT := Lib.hid (HCT.out.below hb (by omega))
        replace HCD := Lib.hid (HCD.out.below hb (by omega))
        replace HY := Lib.hid (HY.out.below hb (by omega))
        replace HM := Lib.hid (HM.out.below hb (by omega))
        replace HZ := Lib.hid (HZ.out.below hb (by omega))
        replace HU := Lib.hid (HU.out.below hb (by omega))
        replace HT := Lib.hid (HT.out.below hb (by omega))
        replace HB := Lib.hid (HB.out.trans (hb.mono (by omega)))
        obtain ⟨AK, cK, rfl, hL⟩ := li_own ho
        have HK := Lib.hid hL
        clear ho hL
        clear hb
        go_wp2_with fail
        have CALL := refSame_any w10.heap.size AK Ax x.length cK nx kx x x w10 (HK.out.more (by omega)) (HX.out.more (by omega)) (Nat.le_refl _) (by omega) (by omega)
        rw [SXX.out] at CALL
        refine CALL.mono ?_
        rintro e w11 ⟨rfl, hb⟩
        clear CALL
        have hsz11 := hb.size
        replace HC := Lib.hid (HC.out.below hb (by omega))
        replace HX := Lib.hid (HX.out.below hb (by omega))
        replace HCT := Lib.hid (HCT.out.below hb (by omega))
        replace HCD := Lib.hid (HCD.out.below hb (by omega))
        replace HY := Lib.hid (HY.out.below hb (by omega))
        replace HM := Lib.hid (HM.out.below hb (by omega))
        replace HZ := Lib.hid (HZ.out.below hb (by omega))
        replace HU := Lib.hid (HU.out.below hb (by omega))
        replace HT := Lib.hid (HT.out.below hb (by omega))
        replace HK := Lib.hid (HK.out.below hb (by omega))
        replace HB := Lib.hid (HB.out.trans (hb.mono (by omega)))

        clear hb
        go_wp2_with fail
        have CALL := UndoAll_any w11.heap.size (restC A ka k) (n - k) (ka - k) (l.drop k) AY yv.length cY yv w11 (HCD.out.more (by omega)) (HY.out.more (by omega)) (Nat.le_refl _) (by omega) (by omega) (hs.drop k)
        rw [EV.out.1, EV.out.2] at CALL
        refine CALL.mono ?_
        rintro e w12 ⟨v, rfl, ho, hb⟩
        clear CALL
        have hsz12 := hb.size
        replace HC := Lib.hid (HC.out.below hb (by omega))
        replace HX := Lib.hid (HX.out.below hb (by omega))
        replace HCT := Lib.hid (HCT.out.below hb (by omega))
        replace HCD := Lib.hid (HCD.out.below hb (by omega))
        replace HY := Lib.hid (HY.out.below hb (by omega))
        replace HM := Lib.hid (HM.out.below hb (by omega))
        replace HZ := Lib.hid (HZ.out.below hb (by omega))
        replace HU := Lib.hid (HU.out.below hb (by omega))
        replace HT := Lib.hid (HT.out.below hb (by omega))
        replace HK := Lib.hid (HK.out.below hb (by omega))
        replace HB := Lib.hid (HB.out.trans (hb.mono (by omega)))
        obtain ⟨AV, cV, rfl, hL⟩ := li_own ho
        have HV := Lib.hid hL
        clear ho hL
        clear hb
        go_wp2_with fail
        have CALL := UndoAll_any w12.heap.size A k ka (l.take k) AV u.length cV u w12 (HCT.out.more (by omega)) (HV.out.more (by omega)) (Nat.le_refl _) (by omega) (by omega) (hs.take k)
        rw [EW.out.1, EW.out.2] at CALL
        refine CALL.mono ?_
        rintro e w13 ⟨v, rfl, ho, hb⟩
        clear CALL
        have hsz13 := hb.size
        replace HC := Lib.hid (HC.out.below hb (by omega))
        replace HX := Lib.hid (HX.out.below hb (by omega))
        replace HCT := Lib.hid (HCT.out.below hb (by omega))
        replace HCD := Lib.hid (HCD.out.below hb (by omega))
        replace HY := Lib.hid (HY.out.below hb (by omega))
        replace HM := Lib.hid (HM.out.below hb (by omega))
        replace HZ := Lib.hid (HZ.out.below hb (by omega))
        replace HU := Lib.hid (HU.out.below hb (by omega))
        replace HT := Lib.hid (HT.out.below hb (by omega))
        replace HK := Lib.hid (HK.out.below hb (by omega))
        replace HV := Lib.hid (HV.out.below hb (by omega))
        replace HB := Lib.hid (HB.out.trans (hb.mono (by omega)))
        obtain ⟨AW, cW, rfl, hL⟩ := li_own ho
        have HW := Lib.hid hL
        clear ho hL
        clear hb
        go_wp2_with fail
        have CALL := refSame_any w13.heap.size AW Ax x.length cW nx kx x x w13 (HW.out.more (by omega)) (HX.out.more (by omega)) (Nat.le_refl _) (by omega) (by omega)
        rw [SXX.out] at CALL
        refine CALL.mono ?_
        rintro e w14 ⟨rfl, hb⟩
        clear CALL
        have hsz14 := hb.size
        replace HC := Lib.hid (HC.out.below hb (by omega))
        replace HX := Lib.hid (HX.out.below hb (by omega))
        replace HCT := Lib.hid (HCT.out.below hb (by omega))
        replace HCD := Lib.hid (HCD.out.below hb (by omega))
        replace HY := Lib.hid (HY.out.below hb (by omega))
        replace HM := Lib.hid (HM.out.below hb (by omega))
        replace HZ := Lib.hid (HZ.out.below hb (by omega))
        replace HU := Lib.hid (HU.out.below hb (by omega))
        replace HT := Lib.hid (HT.out.below hb (by omega))
        replace HK := Lib.hid (HK.out.below hb (by omega))
        replace HV := Lib.hid (HV.out.below hb (by omega))
        replace HW := Lib.hid (HW.out.below hb (by omega))
        replace HB := Lib.hid (HB.out.trans (hb.mono (by omega)))

        clear hb
        go_wp2_with fail
        have CALL := works_any w14
        refine CALL.mono ?_
        rintro e w15 ⟨rfl, hb⟩
        clear CALL
        have hsz15 := hb.size
        replace HC := Lib.hid (HC.out.below hb (by omega))
        replace HX := Lib.hid (HX.out.below hb (by omega))
        replace HCT := Lib.hid (HCT.out.below hb (by omega))
        replace HCD := Lib.hid (HCD.out.below hb (by omega))
        replace HY := Lib.hid (HY.out.below hb (by omega))
        replace HM := Lib.hid (HM.out.below hb (by omega))
        replace HZ := Lib.hid (HZ.out.below hb (by omega))
        replace HU := Lib.hid (HU.out.below hb (by omega))
        replace HT := Lib.hid (HT.out.below hb (by omega))
        replace HK := Lib.hid (HK.out.below hb (by omega))
        replace HV := Lib.hid (HV.out.below hb (by omega))
        replace HW := Lib.hid (HW.out.below hb (by omega))
        replace HB := Lib.hid (HB.out.trans (hb.mono (by omega)))

        clear hb
        go_wp2
        go_ret
        exact ⟨rfl, HB.out⟩
end Go.Proofs.Ytlghgehbmlgacaa
