/-
  Chains of the document: CheckChain, ApplyAll, UndoAll.
-/
import Derived.Test.YthdflofdjhjjhaaUQ
import Derived.Test.YthdflofdjhjjhaaW2
namespace Go.Proofs.Ythdflofdjhjjhaa
open Go.RowKit

/-- A signal through one curve after another. -/
def chS (d : Bool) : List Cur → List Int → Option (List Int)
  | [], x => some x
  | c :: cs, x => (run1 d 32767 c [] x).bind (chS d cs)
/-- A chain does what its curves do one after another. -/
theorem thr_bind (d : Bool) (most : Int) (c : Cur) (cs : List Cur) (x : List Int) : ∀ h hs, thr d most (c :: cs) (h :: hs) x = (run1 d most c h x).bind (thr d most cs hs) := by
  induction x with
  | nil => intro h hs; rfl
  | cons v vs ih =>
    intro h hs
    unfold thr run1
    simp only [pass]
    by_cases hw : wib (outM d (mom d c h v)) most = true
    · rw [if_pos hw, if_pos hw]
      cases hp : pass d most cs hs (outM d (mom d c h v)) with
      | mk hs' o =>
        cases o with
        | none =>
          dsimp only
          cases hr : run1 d most c (mom d c h v :: h) vs with
          | none => rfl
          | some z =>
            simp only [Option.map_some, Option.bind_some]
            unfold thr
            rw [hp]
        | some o =>
          dsimp only
          rw [ih]
          cases hr : run1 d most c (mom d c h v :: h) vs with
          | none => rfl
          | some z =>
            simp only [Option.map_some, Option.bind_some]
            conv => rhs; unfold thr
            rw [hp]
    · rw [if_neg hw, if_neg hw]
      rfl
theorem thr_nil (d : Bool) (most : Int) (x : List Int) : thr d most [] [] x = some x := by
  induction x with
  | nil => rfl
  | cons v vs ih =>
    unfold thr
    simp only [pass]
    rw [ih]; rfl
theorem thr_chS (d : Bool) : ∀ (cs : List Cur) (x : List Int), thr d 32767 cs (cs.map fun _ => []) x = chS d cs x
  | [], x => thr_nil d 32767 x
  | c :: cs, x => by
    rw [List.map_cons, thr_bind]
    unfold chS
    congr 1
    funext y
    exact thr_chS d cs y
theorem chain_chS (d : Bool) (l : List Cur) (x : List Int) : chain d l x = chS d (if d then l else l.reverse) x := by
  unfold chain
  rw [← thr_chS]
  congr 1
  cases d <;> simp [List.map_const']
/-- A signal that a curve gave is one. -/
theorem run1_ck {d : Bool} {c : Cur} {x y : List Int} (hx : ckX x = 0) (h : run1 d 32767 c [] x = some y) : ckX y = 0 := by
  obtain ⟨h1, h2⟩ := ckX_ok hx
  obtain ⟨_, h4, h5⟩ := run1_back h2 h
  exact ckX_mk (by omega) h5

set_option maxHeartbeats 1000000 in
theorem refCheckChain_any (B : Nat) (A : Option Addr) (n k : Nat) (l : List CV) (w : World) (h0 : RC w B A n l) (hB : B ≤ w.heap.size) (hl : n ≤ 9223372036854775807) (hs : CSm l) :
    Calls Try.prog 33 #[.slice A n k] w fun e w' => e = .returned (.int .i64 (ckCs (l.map CV.c))) ∧ Below w.heap.size w w' := by
  have HN := Lib.hid h0.1
  have H := Lib.hid (h0.more hB)
  have HS := Lib.hid hs
  clear h0 hB hs
  by_cases hl2 : 8 < n
  · go_enter Try.func33, Try.ntmps33
    go_wp2
    go_ret
    exact ⟨ret_i (by unfold ckCs; rw [if_pos (by have := HN.out; simp; omega)]), Below.refl _ _⟩
  · have hck : ckCs (l.map CV.c) = errs (l.map CV.c) := by unfold ckCs; rw [if_neg (by have := HN.out; simp; omega)]
    obtain ⟨R, hR⟩ : ∃ R, errs (l.map CV.c) = R := ⟨_, rfl⟩
    rw [hck, hR]
    have HR := Lib.hid hR
    clear hck hR
    go_enter Try.func33, Try.ntmps33
    go_wp2
    go_loopw [3] (fun i wr => ∃ k : Nat, k ≤ n ∧ i = .int .i64 k ∧ Hid (Below w.heap.size w wr) ∧ Hid (errs ((l.drop k).map CV.c) = R)) (fun i wr => n - (intOf i).toNat)
    case atStart => exact ⟨0, Nat.zero_le _, rfl, Lib.hid (Below.refl _ _), HR⟩
    case round =>
      clear HR
      obtain ⟨j, hj, rfl, HBW, HR⟩ := hrel
      have hz : w.heap.size ≤ wr.heap.size := HBW.out.size
      by_cases hlt : j < n
      · have hjl : j < l.length := by have := HN.out; omega
        obtain ⟨ad, hA, hbl, p0, p1, p2, hci⟩ := (H.out.below HBW.out (Nat.le_refl _)).at_ (k := j) hjl
        obtain rfl := hA
        have hsm := HS.out _ (List.getElem_mem hjl)
        have hrr := HR.out
        rw [List.drop_eq_getElem_cons hjl] at hrr
        have HD := Lib.hid hrr
        clear hrr
        obtain ⟨t, ht⟩ : ∃ t, l[j] = t := ⟨_, rfl⟩
        rw [ht] at p0 p1 p2 hci hsm HD
        clear ht
        have CK := refCheckCurve_any wr.heap.size t wr (hci.more hz) (Nat.le_refl _) hsm
        obtain ⟨r, hr⟩ : ∃ r, ckV t.c = r := ⟨_, rfl⟩
        rw [hr] at CK
        have HER := Lib.hid hr
        have CK := Lib.hid CK
        clear hr hci
        by_cases hne : r = 0
        · subst hne
          go_wp2_with ((with_reducible refine CK.out.mono ?_); rintro e w2 ⟨rfl, hb2⟩)
          go_roundw
          case rel => exact ⟨j + 1, by omega, by go_num, Lib.hid (HBW.out.trans (hb2.mono hz)), Lib.hid (by have h := HD.out; rw [List.map_cons] at h; unfold errs at h; rw [if_pos HER.out] at h; exact h)⟩
          case measure => simp [intOf]; omega
        · have q1 : (r != 0) = true := by rw [bne_iff_ne]; exact hne
          have q2 : (r == 0) = false := beq_eq_false_iff_ne.2 hne
          go_wp2_with ((with_reducible refine CK.out.mono ?_); rintro e w2 ⟨rfl, hb2⟩)
          go_ret
          exact ⟨ret_i (by have h := HD.out; rw [List.map_cons] at h; unfold errs at h; rw [if_neg (by rw [HER.out]; exact hne), HER.out] at h; exact h), HBW.out.trans (hb2.mono hz)⟩
      · go_wp2
        go_ret
        have h := HR.out
        rw [List.drop_of_length_le (by have := HN.out; omega)] at h
        exact ⟨ret_i h, HBW.out⟩

set_option maxRecDepth 100000 in
set_option maxHeartbeats 8000000 in
theorem refApplyAll_any (B : Nat) (A : Option Addr) (n k : Nat) (l : List CV) (Ax : Option Addr) (nx kx : Nat) (xs : List Int) (w : World) (h0 : RC w B A n l) (hX : LI w B Ax nx xs) (hB : B ≤ w.heap.size) (hl : n ≤ 9223372036854775807) (hlx : nx ≤ 9223372036854775807) (hs : CSm l) :
    Calls Try.prog 17 #[.slice A n k, .slice Ax nx kx] w (OutPost w.heap.size w (chRes true (l.map CV.c) xs) (chErr true (l.map CV.c) xs)) := by
  have HN := Lib.hid h0.1
  have HC := Lib.hid (h0.more hB)
  have HX := Lib.hid (hX.more hB)
  have HNX := Lib.hid hX.1
  have HS := Lib.hid hs
  clear h0 hX hB hs
  have CC := Lib.hid (refCheckChain_any w.heap.size A n k l w HC.out (Nat.le_refl _) hl HS.out)
  have CX := Lib.hid (fun W (hb : Below w.heap.size w W) => refSignal_any w.heap.size Ax nx kx xs W (HX.out.below hb (Nat.le_refl _)) hlx)
  obtain ⟨e1, he1⟩ : ∃ e, ckCs (l.map CV.c) = e := ⟨_, rfl⟩
  obtain ⟨e2, he2⟩ : ∃ e, ckX xs = e := ⟨_, rfl⟩
  have HER : Hid (chEr (l.map CV.c) xs = orL [e1, e2]) := Lib.hid (by unfold chEr; rw [he1, he2])
  rw [he1] at CC
  rw [he2] at CX
  have HE1 := Lib.hid he1
  have HE2 := Lib.hid he2
  clear he1 he2
  obtain ⟨R, hR⟩ : ∃ R, chRes true (l.map CV.c) xs = R := ⟨_, rfl⟩
  obtain ⟨E, hE⟩ : ∃ R, chErr true (l.map CV.c) xs = R := ⟨_, rfl⟩
  rw [hR, hE]
  unfold chRes at hR
  unfold chErr at hE
  rw [HER.out] at hR hE
  by_cases h1 : e1 = 0
  · subst h1
    by_cases h2 : e2 = 0
    · subst h2
      rw [if_pos (by rfl)] at hR hE
      have hok := chEr_ok (l := l.map CV.c) (xs := xs) HER.out
      obtain ⟨⟨hl8, hcs⟩, hx4, hxw⟩ := hok
      have HCS := Lib.hid hcs
      have hn8 : n ≤ 8 := by have := HN.out; simp at hl8; omega
      have hnx4 : nx ≤ 4096 := by have := HNX.out; omega
      obtain ⟨Q, hQ⟩ : ∃ Q, chain true (l.map CV.c) xs = Q := ⟨_, rfl⟩
      rw [hQ] at hR hE
      rw [chain_chS] at hQ
      have HQ : Hid (chS true (l.map CV.c) xs = Q) := Lib.hid hQ
      have HR := Lib.hid hR
      have HE := Lib.hid hE
      have HCV := Lib.hid (fun c hc => errs_ok (l := l.map CV.c) (by have h := HE1.out; unfold ckCs at h; rw [if_neg (by omega)] at h; exact h) c hc)
      obtain ⟨i0, hi0, hz0, hz1, hz2⟩ := info_parts info_i64
      have HI0 := Lib.hid hi0
      have HZ0 := Lib.hid hz0
      have HZ1 := Lib.hid hz1
      have HZ2 := Lib.hid hz2
      clear hR hE hQ hcs hxw hl8 hx4 hi0 hz0 hz1 hz2
      have w0 : IntKind.i64.wrap ((n : Int) - 1) = (n : Int) - 1 := IntWalk.i64_in _ (by omega)
      go_enter Try.func17, Try.ntmps17
      go_wp2_with fail
      refine CC.out.mono ?_
      rintro e w1 ⟨rfl, hb1⟩
      go_wp2_with fail
      refine (CX.out _ hb1).mono ?_
      rintro e w2 ⟨rfl, rfl⟩
      have HX1 := Lib.hid ((HX.out.below hb1 (Nat.le_refl _)).more hb1.size)
      have HB1 := Lib.hid hb1
      clear hb1 CC CX
      go_wp2
      go_loopw [1, 6, 7] (fun v er i wr => ∃ (j : Nat) (ys : List Int) (Ay : Option Addr) (ny ky : Nat) (ec : Int), j ≤ n ∧ i = .int .i64 (j : Int) ∧ v = .slice Ay ny ky ∧ er = .int .i64 ec ∧ Hid (LI wr wr.heap.size Ay ny ys) ∧ ny ≤ 4096 ∧ Hid (Below w.heap.size w wr) ∧ Hid ((ec = 0 ∧ ckX ys = 0 ∧ chS true ((l.map CV.c).drop j) ys = Q) ∨ (ec = 4 ∧ Q = none))) (fun _ _ i _ => n - (intOf i).toNat)
      case atStart => exact ⟨0, xs, Ax, nx, kx, 0, Nat.zero_le _, rfl, rfl, rfl, HX1, hnx4, HB1, Lib.hid (.inl ⟨rfl, HE2.out, by rw [List.drop_zero]; exact HQ.out⟩)⟩
      case round =>
        clear HX1 HB1 HQ
        obtain ⟨j, ys, Ay, ny, ky, ec, hj, rfl, rfl, rfl, HY, hny, HBW, HI⟩ := hrel
        have hsz : w.heap.size ≤ wr.heap.size := HBW.out.size
        have w1 : IntKind.i64.wrap ((n : Int) - 1 - j - 1) = (n : Int) - 1 - j - 1 := IntWalk.i64_in _ (by omega)
        have hnyl := HY.out.1
        rcases HI.out with ⟨rfl, hcy, hqy⟩ | ⟨rfl, hqn⟩
        · by_cases hlt : j < n
          · have hjl : j < l.length := by have := HN.out; omega
            obtain ⟨ad, hA, hbl, p0, p1, p2, hci⟩ := (HC.out.below HBW.out (Nat.le_refl _)).at_ (k := j) hjl
            obtain rfl := hA
            have hsm := HS.out _ (List.getElem_mem hjl)
            have hod : j < (l.map CV.c).length := by have := HN.out; simp; omega
            have hoj : (l.map CV.c)[j] = (l[j]).c := by rw [List.getElem_map]
            have hcv := HCV.out _ (List.mem_map.2 ⟨_, List.getElem_mem hjl, rfl⟩ : (l[j]).c ∈ l.map CV.c)
            rw [List.drop_eq_getElem_cons hod, hoj] at hqy
            unfold chS at hqy
            obtain ⟨t, ht⟩ : ∃ t, l[j] = t := ⟨_, rfl⟩
            rw [ht] at p0 p1 p2 hci hsm hqy hcv
            clear ht hoj hod
            have AP := refApply_any wr.heap.size t Ay ny ky ys wr (hci.more hsz) HY.out (Nat.le_refl _) (by omega) hsm
            have er0 := one_er hcv hcy
            have hly : ys.length ≤ 4096 := (ckX_ok hcy).1
            have i1 : 0 ≤ (n : Int) - 1 - j := by omega
            have i2 : ((n : Int) - 1 - j).toNat = n - 1 - j := by omega
            have i3 : (n : Int) - 1 - j < (n : Int) := by omega
            cases hr : run1 true 32767 t.c [] ys with
            | none =>
              rw [hr] at hqy
              have HQN : Hid (Q = none) := Lib.hid hqy.symm
              obtain ⟨r1, r2⟩ := one_none er0 ((chain_one _ _ _).trans hr)
              rw [r1, r2] at AP
              have AP := Lib.hid AP
              clear r1 r2 hqy hr hci hcv hcy er0 hnyl hly HI
              go_wp2_with ((with_reducible refine AP.out.mono ?_); rintro e w3 ⟨v, rfl, ho, hb3⟩)
              obtain ⟨A3, c3, rfl, hL⟩ := li_own ho
              go_roundw
              case rel => exact ⟨j + 1, [], A3, 0, c3, 4, by omega, by go_num, rfl, rfl, Lib.hid hL, by omega, Lib.hid (HBW.out.trans (hb3.mono hsz)), Lib.hid (.inr ⟨rfl, HQN.out⟩)⟩
              case measure => simp [intOf]; omega
            | some z =>
              rw [hr] at hqy
              have hqz : chS true ((l.map CV.c).drop (j + 1)) z = Q := hqy
              have hcz := run1_ck hcy hr
              obtain ⟨r1, r2⟩ := one_some er0 ((chain_one _ _ _).trans hr)
              rw [r1, r2] at AP
              have AP := Lib.hid AP
              have HQZ := Lib.hid (show ckX z = 0 ∧ chS true ((l.map CV.c).drop (j + 1)) z = Q from ⟨hcz, hqz⟩)
              have hlz : z.length ≤ 4096 := (ckX_ok hcz).1
              clear r1 r2 hqy hr hci hcv hcy er0 hqz hcz hnyl hly HI
              go_wp2_with ((with_reducible refine AP.out.mono ?_); rintro e w3 ⟨v, rfl, ho, hb3⟩)
              obtain ⟨A3, c3, rfl, hL⟩ := li_own ho
              go_roundw
              case rel => exact ⟨j + 1, z, A3, _, c3, 0, by omega, by go_num, rfl, rfl, Lib.hid hL, hlz, Lib.hid (HBW.out.trans (hb3.mono hsz)), Lib.hid (.inl ⟨rfl, HQZ.out⟩)⟩
              case measure => simp [intOf]; omega
          · obtain rfl : j = n := by omega
            have i1 : ¬ 0 ≤ (j : Int) - 1 - j := by omega
            have hqe : Q = some ys := by
              rw [← hqy, List.drop_of_length_le (by have := HN.out; simp; omega)]; rfl
            subst hqe
            have HR2 : Hid (R = ys) := Lib.hid HR.out.symm
            have HE3 : Hid (E = 0) := Lib.hid (by rw [← HE.out]; simp)
            have HEE := HE3.out
            subst HEE
            have HYL := Lib.hid hnyl
            clear hqy hcy HR HE HE3 hnyl HI
            go_wp2_with (at_builtin; refine wpList_append_any _ rfl (.tmp 37) (.tmp 38) _ rfl w.heap.size 2 i0 _ 1 8 Try.underlying22 HI0.out HZ0.out HZ1.out HZ2.out rfl (by omega) _ 0 [] rfl (World.ownsRow_lit wr #[] 0 hsz (Nat.zero_le _) (by simp)) (wr.heap.size + 1) Ay ny ky (nums ys) rfl ((HY.out.2.below ((Below.refl _ _).alloc (Nat.le_refl _) _) (Nat.le_refl _)).more (Nat.le_succ _)) (by intro u hu; obtain ⟨y, _, rfl⟩ := List.mem_map.1 hu; rfl) (by simp only [maxLen]; omega) (by omega) (by first | omega | (simp; omega)) ?_)
            intro v' w4 hown' hgrow hblk
            have hbn : Below w.heap.size w w4 := (HBW.out.alloc hsz _).grown hgrow (by simp; omega) fun q hq => by simp [Value.ownBlock] at hq; omega
            have HON : Hid (w4.ownsRow w.heap.size 2 1 v' R.length (nums R)) := Lib.hid (by rw [HR2.out, ← HYL.out]; simpa using hown')
            have HBN := Lib.hid hbn
            clear hown' hgrow hblk hbn HR2
            go_wp2
            go_ret2
            exact ⟨_, rfl, HON.out, HBN.out⟩
        · subst hqn
          have hr0 := HR.out
          have he0 : E = 4 := by rw [← HE.out]; simp
          simp only [Option.getD_none] at hr0
          subst hr0
          subst he0
          clear HR HE
          by_cases hlt : j < n
          · have i1 : 0 ≤ (n : Int) - 1 - j := by omega
            go_wp2
            go_ret2
            exact ⟨_, rfl, World.ownsRow_nil _ _ _ _, HBW.out⟩
          · have i1 : ¬ 0 ≤ (n : Int) - 1 - j := by omega
            go_wp2
            go_ret2
            exact ⟨_, rfl, World.ownsRow_nil _ _ _ _, HBW.out⟩
    · have ho : orL [0, e2] = e2 := by unfold orL; rw [if_pos rfl]; unfold orL; rw [if_neg h2]
      rw [ho, if_neg h2] at hR hE
      subst hR hE
      have q1 : (e2 != 0) = true := by rw [bne_iff_ne]; exact h2
      have q2 : (e2 == 0) = false := beq_eq_false_iff_ne.2 h2
      have w0 : IntKind.i64.wrap ((n : Int) - 1) = (n : Int) - 1 := IntWalk.i64_in _ (by omega)
      clear ho
      go_enter Try.func17, Try.ntmps17
      go_wp2_with fail
      refine CC.out.mono ?_
      rintro e w1 ⟨rfl, hb1⟩
      go_wp2_with fail
      refine (CX.out _ hb1).mono ?_
      rintro e w2 ⟨rfl, rfl⟩
      have HB1 := Lib.hid hb1
      clear hb1 CC CX
      go_wp2
      go_loopw [1, 6, 7] (fun v er i wr => v = .slice Ax nx kx ∧ er = .int .i64 e2 ∧ i = .int .i64 0 ∧ Hid (Below w.heap.size w wr)) (fun _ _ i _ => 0)
      case atStart => exact ⟨rfl, rfl, rfl, HB1⟩
      case round =>
        obtain ⟨rfl, rfl, rfl, HBW⟩ := hrel
        by_cases hn0 : n = 0
        · subst hn0
          have i1 : ¬ 0 ≤ ((0 : Nat) : Int) - 1 := by omega
          go_wp2
          go_ret2
          exact ⟨_, rfl, World.ownsRow_nil _ _ _ _, HBW.out⟩
        · have hn1 : (0 : Int) < (n : Int) := by omega
          have hn2 : 0 < n := by omega
          have i1 : 0 ≤ (n : Int) - 1 := by omega
          go_wp2
          go_ret2
          exact ⟨_, rfl, World.ownsRow_nil _ _ _ _, HBW.out⟩
  · have ho : orL [e1, e2] = e1 := by unfold orL; rw [if_neg h1]
    rw [ho, if_neg h1] at hR hE
    subst hR hE
    have q1 : (e1 != 0) = true := by rw [bne_iff_ne]; exact h1
    have q2 : (e1 == 0) = false := beq_eq_false_iff_ne.2 h1
    clear ho
    go_enter Try.func17, Try.ntmps17
    go_wp2_with fail
    refine CC.out.mono ?_
    rintro e w1 ⟨rfl, hb1⟩
    go_wp2
    go_ret2
    exact ⟨_, rfl, World.ownsRow_nil _ _ _ _, hb1⟩

set_option maxRecDepth 100000 in
set_option maxHeartbeats 8000000 in
theorem refUndoAll_any (B : Nat) (A : Option Addr) (n k : Nat) (l : List CV) (Ax : Option Addr) (nx kx : Nat) (xs : List Int) (w : World) (h0 : RC w B A n l) (hX : LI w B Ax nx xs) (hB : B ≤ w.heap.size) (hl : n ≤ 9223372036854775807) (hlx : nx ≤ 9223372036854775807) (hs : CSm l) :
    Calls Try.prog 19 #[.slice A n k, .slice Ax nx kx] w (OutPost w.heap.size w (chRes false (l.map CV.c) xs) (chErr false (l.map CV.c) xs)) := by
  have HN := Lib.hid h0.1
  have HC := Lib.hid (h0.more hB)
  have HX := Lib.hid (hX.more hB)
  have HNX := Lib.hid hX.1
  have HS := Lib.hid hs
  clear h0 hX hB hs
  have CC := Lib.hid (refCheckChain_any w.heap.size A n k l w HC.out (Nat.le_refl _) hl HS.out)
  have CX := Lib.hid (fun W (hb : Below w.heap.size w W) => refSignal_any w.heap.size Ax nx kx xs W (HX.out.below hb (Nat.le_refl _)) hlx)
  obtain ⟨e1, he1⟩ : ∃ e, ckCs (l.map CV.c) = e := ⟨_, rfl⟩
  obtain ⟨e2, he2⟩ : ∃ e, ckX xs = e := ⟨_, rfl⟩
  have HER : Hid (chEr (l.map CV.c) xs = orL [e1, e2]) := Lib.hid (by unfold chEr; rw [he1, he2])
  rw [he1] at CC
  rw [he2] at CX
  have HE1 := Lib.hid he1
  have HE2 := Lib.hid he2
  clear he1 he2
  obtain ⟨R, hR⟩ : ∃ R, chRes false (l.map CV.c) xs = R := ⟨_, rfl⟩
  obtain ⟨E, hE⟩ : ∃ R, chErr false (l.map CV.c) xs = R := ⟨_, rfl⟩
  rw [hR, hE]
  unfold chRes at hR
  unfold chErr at hE
  rw [HER.out] at hR hE
  by_cases h1 : e1 = 0
  · subst h1
    by_cases h2 : e2 = 0
    · subst h2
      rw [if_pos (by rfl)] at hR hE
      have hok := chEr_ok (l := l.map CV.c) (xs := xs) HER.out
      obtain ⟨⟨hl8, hcs⟩, hx4, hxw⟩ := hok
      have HCS := Lib.hid hcs
      have hn8 : n ≤ 8 := by have := HN.out; simp at hl8; omega
      have hnx4 : nx ≤ 4096 := by have := HNX.out; omega
      obtain ⟨Q, hQ⟩ : ∃ Q, chain false (l.map CV.c) xs = Q := ⟨_, rfl⟩
      rw [hQ] at hR hE
      rw [chain_chS] at hQ
      have HQ : Hid (chS false (l.map CV.c).reverse xs = Q) := Lib.hid hQ
      have HR := Lib.hid hR
      have HE := Lib.hid hE
      have HCV := Lib.hid (fun c hc => errs_ok (l := l.map CV.c) (by have h := HE1.out; unfold ckCs at h; rw [if_neg (by omega)] at h; exact h) c hc)
      obtain ⟨i0, hi0, hz0, hz1, hz2⟩ := info_parts info_i64
      have HI0 := Lib.hid hi0
      have HZ0 := Lib.hid hz0
      have HZ1 := Lib.hid hz1
      have HZ2 := Lib.hid hz2
      clear hR hE hQ hcs hxw hl8 hx4 hi0 hz0 hz1 hz2
      have w0 : IntKind.i64.wrap ((n : Int) - 1) = (n : Int) - 1 := IntWalk.i64_in _ (by omega)
      go_enter Try.func19, Try.ntmps19
      go_wp2_with fail
      refine CC.out.mono ?_
      rintro e w1 ⟨rfl, hb1⟩
      go_wp2_with fail
      refine (CX.out _ hb1).mono ?_
      rintro e w2 ⟨rfl, rfl⟩
      have HX1 := Lib.hid ((HX.out.below hb1 (Nat.le_refl _)).more hb1.size)
      have HB1 := Lib.hid hb1
      clear hb1 CC CX
      go_wp2
      go_loopw [1, 6, 7] (fun v er i wr => ∃ (j : Nat) (ys : List Int) (Ay : Option Addr) (ny ky : Nat) (ec : Int), j ≤ n ∧ i = .int .i64 ((n : Int) - 1 - j) ∧ v = .slice Ay ny ky ∧ er = .int .i64 ec ∧ Hid (LI wr wr.heap.size Ay ny ys) ∧ ny ≤ 4096 ∧ Hid (Below w.heap.size w wr) ∧ Hid ((ec = 0 ∧ ckX ys = 0 ∧ chS false ((l.map CV.c).reverse.drop j) ys = Q) ∨ (ec = 4 ∧ Q = none))) (fun _ _ i _ => (intOf i + 1).toNat)
      case atStart => exact ⟨0, xs, Ax, nx, kx, 0, Nat.zero_le _, by simp, rfl, rfl, HX1, hnx4, HB1, Lib.hid (.inl ⟨rfl, HE2.out, by rw [List.drop_zero]; exact HQ.out⟩)⟩
      case round =>
        clear HX1 HB1 HQ
        obtain ⟨j, ys, Ay, ny, ky, ec, hj, rfl, rfl, rfl, HY, hny, HBW, HI⟩ := hrel
        have hsz : w.heap.size ≤ wr.heap.size := HBW.out.size
        have w1 : IntKind.i64.wrap ((n : Int) - 1 - j - 1) = (n : Int) - 1 - j - 1 := IntWalk.i64_in _ (by omega)
        have hnyl := HY.out.1
        rcases HI.out with ⟨rfl, hcy, hqy⟩ | ⟨rfl, hqn⟩
        · by_cases hlt : j < n
          · have hjl : (n - 1 - j) < l.length := by have := HN.out; omega
            obtain ⟨ad, hA, hbl, p0, p1, p2, hci⟩ := (HC.out.below HBW.out (Nat.le_refl _)).at_ (k := (n - 1 - j)) hjl
            obtain rfl := hA
            have hsm := HS.out _ (List.getElem_mem hjl)
            have hod : j < (l.map CV.c).reverse.length := by have := HN.out; simp; omega
            have hoj : (l.map CV.c).reverse[j] = (l[(n - 1 - j)]).c := by rw [List.getElem_reverse, List.getElem_map]; simp only [List.length_map, ← HN.out]
            have hcv := HCV.out _ (List.mem_map.2 ⟨_, List.getElem_mem hjl, rfl⟩ : (l[(n - 1 - j)]).c ∈ l.map CV.c)
            rw [List.drop_eq_getElem_cons hod, hoj] at hqy
            unfold chS at hqy
            obtain ⟨t, ht⟩ : ∃ t, l[(n - 1 - j)] = t := ⟨_, rfl⟩
            rw [ht] at p0 p1 p2 hci hsm hqy hcv
            clear ht hoj hod
            have AP := refUndo_any wr.heap.size t Ay ny ky ys wr (hci.more hsz) HY.out (Nat.le_refl _) (by omega) hsm
            have er0 := one_er hcv hcy
            have hly : ys.length ≤ 4096 := (ckX_ok hcy).1
            have i1 : 0 ≤ (n : Int) - 1 - j := by omega
            have i2 : ((n : Int) - 1 - j).toNat = n - 1 - j := by omega
            have i3 : (n : Int) - 1 - j < (n : Int) := by omega
            cases hr : run1 false 32767 t.c [] ys with
            | none =>
              rw [hr] at hqy
              have HQN : Hid (Q = none) := Lib.hid hqy.symm
              obtain ⟨r1, r2⟩ := one_none er0 ((chain_one _ _ _).trans hr)
              rw [r1, r2] at AP
              have AP := Lib.hid AP
              clear r1 r2 hqy hr hci hcv hcy er0 hnyl hly HI
              go_wp2_with ((with_reducible refine AP.out.mono ?_); rintro e w3 ⟨v, rfl, ho, hb3⟩)
              obtain ⟨A3, c3, rfl, hL⟩ := li_own ho
              go_roundw
              case rel => exact ⟨j + 1, [], A3, 0, c3, 4, by omega, by congr 1; omega, rfl, rfl, Lib.hid hL, by omega, Lib.hid (HBW.out.trans (hb3.mono hsz)), Lib.hid (.inr ⟨rfl, HQN.out⟩)⟩
              case measure => simp [intOf]; omega
            | some z =>
              rw [hr] at hqy
              have hqz : chS false ((l.map CV.c).reverse.drop (j + 1)) z = Q := hqy
              have hcz := run1_ck hcy hr
              obtain ⟨r1, r2⟩ := one_some er0 ((chain_one _ _ _).trans hr)
              rw [r1, r2] at AP
              have AP := Lib.hid AP
              have HQZ := Lib.hid (show ckX z = 0 ∧ chS false ((l.map CV.c).reverse.drop (j + 1)) z = Q from ⟨hcz, hqz⟩)
              have hlz : z.length ≤ 4096 := (ckX_ok hcz).1
              clear r1 r2 hqy hr hci hcv hcy er0 hqz hcz hnyl hly HI
              go_wp2_with ((with_reducible refine AP.out.mono ?_); rintro e w3 ⟨v, rfl, ho, hb3⟩)
              obtain ⟨A3, c3, rfl, hL⟩ := li_own ho
              go_roundw
              case rel => exact ⟨j + 1, z, A3, _, c3, 0, by omega, by congr 1; omega, rfl, rfl, Lib.hid hL, hlz, Lib.hid (HBW.out.trans (hb3.mono hsz)), Lib.hid (.inl ⟨rfl, HQZ.out⟩)⟩
              case measure => simp [intOf]; omega
          · obtain rfl : j = n := by omega
            have i1 : ¬ 0 ≤ (j : Int) - 1 - j := by omega
            have hqe : Q = some ys := by
              rw [← hqy, List.drop_of_length_le (by have := HN.out; simp; omega)]; rfl
            subst hqe
            have HR2 : Hid (R = ys) := Lib.hid HR.out.symm
            have HE3 : Hid (E = 0) := Lib.hid (by rw [← HE.out]; simp)
            have HEE := HE3.out
            subst HEE
            have HYL := Lib.hid hnyl
            clear hqy hcy HR HE HE3 hnyl HI
            go_wp2_with (at_builtin; refine wpList_append_any _ rfl (.tmp 38) (.tmp 39) _ rfl w.heap.size 2 i0 _ 1 8 Try.underlying22 HI0.out HZ0.out HZ1.out HZ2.out rfl (by omega) _ 0 [] rfl (World.ownsRow_lit wr #[] 0 hsz (Nat.zero_le _) (by simp)) (wr.heap.size + 1) Ay ny ky (nums ys) rfl ((HY.out.2.below ((Below.refl _ _).alloc (Nat.le_refl _) _) (Nat.le_refl _)).more (Nat.le_succ _)) (by intro u hu; obtain ⟨y, _, rfl⟩ := List.mem_map.1 hu; rfl) (by simp only [maxLen]; omega) (by omega) (by first | omega | (simp; omega)) ?_)
            intro v' w4 hown' hgrow hblk
            have hbn : Below w.heap.size w w4 := (HBW.out.alloc hsz _).grown hgrow (by simp; omega) fun q hq => by simp [Value.ownBlock] at hq; omega
            have HON : Hid (w4.ownsRow w.heap.size 2 1 v' R.length (nums R)) := Lib.hid (by rw [HR2.out, ← HYL.out]; simpa using hown')
            have HBN := Lib.hid hbn
            clear hown' hgrow hblk hbn HR2
            go_wp2
            go_ret2
            exact ⟨_, rfl, HON.out, HBN.out⟩
        · subst hqn
          have hr0 := HR.out
          have he0 : E = 4 := by rw [← HE.out]; simp
          simp only [Option.getD_none] at hr0
          subst hr0
          subst he0
          clear HR HE
          by_cases hlt : j < n
          · have i1 : 0 ≤ (n : Int) - 1 - j := by omega
            go_wp2
            go_ret2
            exact ⟨_, rfl, World.ownsRow_nil _ _ _ _, HBW.out⟩
          · have i1 : ¬ 0 ≤ (n : Int) - 1 - j := by omega
            go_wp2
            go_ret2
            exact ⟨_, rfl, World.ownsRow_nil _ _ _ _, HBW.out⟩
    · have ho : orL [0, e2] = e2 := by unfold orL; rw [if_pos rfl]; unfold orL; rw [if_neg h2]
      rw [ho, if_neg h2] at hR hE
      subst hR hE
      have q1 : (e2 != 0) = true := by rw [bne_iff_ne]; exact h2
      have q2 : (e2 == 0) = false := beq_eq_false_iff_ne.2 h2
      have w0 : IntKind.i64.wrap ((n : Int) - 1) = (n : Int) - 1 := IntWalk.i64_in _ (by omega)
      clear ho
      go_enter Try.func19, Try.ntmps19
      go_wp2_with fail
      refine CC.out.mono ?_
      rintro e w1 ⟨rfl, hb1⟩
      go_wp2_with fail
      refine (CX.out _ hb1).mono ?_
      rintro e w2 ⟨rfl, rfl⟩
      have HB1 := Lib.hid hb1
      clear hb1 CC CX
      go_wp2
      go_loopw [1, 6, 7] (fun v er i wr => v = .slice Ax nx kx ∧ er = .int .i64 e2 ∧ i = .int .i64 ((n : Int) - 1) ∧ Hid (Below w.heap.size w wr)) (fun _ _ i _ => 0)
      case atStart => exact ⟨rfl, rfl, rfl, HB1⟩
      case round =>
        obtain ⟨rfl, rfl, rfl, HBW⟩ := hrel
        by_cases hn0 : n = 0
        · subst hn0
          have i1 : ¬ 0 ≤ ((0 : Nat) : Int) - 1 := by omega
          go_wp2
          go_ret2
          exact ⟨_, rfl, World.ownsRow_nil _ _ _ _, HBW.out⟩
        · have hn1 : (0 : Int) < (n : Int) := by omega
          have hn2 : 0 < n := by omega
          have i1 : 0 ≤ (n : Int) - 1 := by omega
          go_wp2
          go_ret2
          exact ⟨_, rfl, World.ownsRow_nil _ _ _ _, HBW.out⟩
  · have ho : orL [e1, e2] = e1 := by unfold orL; rw [if_neg h1]
    rw [ho, if_neg h1] at hR hE
    subst hR hE
    have q1 : (e1 != 0) = true := by rw [bne_iff_ne]; exact h1
    have q2 : (e1 == 0) = false := beq_eq_false_iff_ne.2 h1
    clear ho
    go_enter Try.func19, Try.ntmps19
    go_wp2_with fail
    refine CC.out.mono ?_
    rintro e w1 ⟨rfl, hb1⟩
    go_wp2
    go_ret2
    exact ⟨_, rfl, World.ownsRow_nil _ _ _ _, hb1⟩
end Go.Proofs.Ythdflofdjhjjhaa
