/-
  The document's read: what a tip reads.
-/
import Derived.Test.YtjdnpgilinfkgaaMR
import Derived.Test.YtjdnpgilinfkgaaMG
namespace Go.Proofs.Ytjdnpgilinfkgaa
open Go.RowKit

set_option maxRecDepth 100000 in
set_option maxHeartbeats 4000000 in
theorem refReadIn_any (B : Nat) (Af A : Option Addr) (nf cf n c : Nat) (s : List Int) (l : List Smp) (w : World) (hL : LI w B Af nf s) (h0 : RS w B A n l) (hB : B ≤ w.heap.size) (hs : Shp s) (he : Edg l) (hn : n ≤ 4096) :
    Calls Try.prog 68 #[.agg #[.slice Af nf cf], .slice A n c] w (LinePost w (rdL s l)) := by
  have HN := Lib.hid h0.1
  have HNF := Lib.hid hL.1
  have H := Lib.hid (h0.more hB)
  have HL := Lib.hid (hL.more hB)
  have HE := Lib.hid he
  have HSH := Lib.hid hs
  have hnf : nf ≤ 64 := by have := hL.1; have := hs.many; omega
  clear h0 hL hB he hs
  obtain ⟨i0, hi0, hz0, hz1, hz2⟩ := info_parts info_pt
  have HI0 := Lib.hid hi0
  have HZ0 := Lib.hid hz0
  have HZ1 := Lib.hid hz1
  have HZ2 := Lib.hid hz2
  clear hi0 hz0 hz1 hz2
  go_enter Try.func68, Try.ntmps68
  go_wp2_with fail
  obtain ⟨W, hW⟩ : ∃ W, w.alloc (.cells #[.slice Af nf cf] 24) = W := ⟨_, rfl⟩
  have hb : Below w.heap.size w W := by rw [← hW]; exact (Below.refl _ _).alloc (Nat.le_refl _) _
  have k0 : Blk W w.heap.size 24 #[.slice Af nf cf] := by rw [← hW]; exact Blk.new _ _ _
  have HK := Lib.hid k0
  replace H := Lib.hid (H.out.below hb (Nat.le_refl _))
  replace HL := Lib.hid (HL.out.below hb (Nat.le_refl _))
  have HB0 := Lib.hid hb
  have hwW := hb.size
  have hown : W.ownsRow W.heap.size 69 2 (.slice none 0 0) 0 [] := World.ownsRow_nil _ _ _ _
  have HO := Lib.hid hown
  rw [hW]
  obtain ⟨bt, hbt⟩ : ∃ b, w.heap.size = b := ⟨_, rfl⟩
  rw [hbt] at HK hwW H HL HB0 ⊢
  have hbW := HK.out.lt
  clear hW hb k0 hown
  go_loopw [5, 6] (fun v z wr => ∃ (j : Nat) (sv : Value), j ≤ n ∧ z = .int .i64 j ∧ sv = v ∧ Hid (wr.ownsRow W.heap.size 69 2 sv j (smpCells ((rdL s l).take j))) ∧ Hid (Below W.heap.size W wr)) (fun v z wr => n - (intOf z).toNat)
  case atStart => exact ⟨0, _, Nat.zero_le _, rfl, rfl, HO, Lib.hid (Below.refl _ _)⟩
  case round =>
    clear HO
    obtain ⟨j, sv, hj, rfl, rfl, HO, HB⟩ := hrel
    by_cases hlt : j < n
    · have hjl : j < l.length := by have := HN.out; omega
      obtain ⟨ad, hA, hbl, p1, p2⟩ := (H.out.below HB.out (by omega)).at_ hjl
      obtain rfl := hA
      have HSN : Hid ((rdL s l).take (j + 1) = (rdL s l).take j ++ [(-rdG s (innW l) j n, rdG s (outW l) j n)]) := Lib.hid (by
        have e := ofW_take (er s l.length (innW l)) (er s l.length (outW l)) hjl
        have hnn := HN.out
        rw [hnn, rdG_er HSH.out HE.out.1 hjl, rdG_er HSH.out HE.out.2 hjl]
        exact e)
      have g1 : rdG s (innW l) j 0 = -(l[j].1) := innW_eq hjl
      have g2 : rdG s (outW l) j 0 = l[j].2 := outW_eq hjl
      obtain ⟨p, hp⟩ : ∃ p, l[j] = p := ⟨_, rfl⟩
      rw [hp] at p1 p2 g1 g2
      clear hp
      go_upto_region 6 with fail
      obtain ⟨W4, hW4⟩ : ∃ W4, wr.alloc (.cells #[.int .i64 p.1, .int .i64 p.2] 69) = W4 := ⟨_, rfl⟩
      have k4 : Blk W4 wr.heap.size 69 #[.int .i64 p.1, .int .i64 p.2] := by rw [← hW4]; exact Blk.new _ _ _
      have hb4 : Below wr.heap.size wr W4 := by rw [← hW4]; exact (Below.refl _ _).alloc (Nat.le_refl _) _
      have HO4 := Lib.hid (own_below HO.out hb4)
      have hsw := HB.out.size
      have HB4 := Lib.hid (HB.out.trans (hb4.mono hsw))
      have HLT : Hid (∀ g, sv.ownBlock = some g → g < wr.heap.size) := Lib.hid (fun g hg => (HO.out.lt g hg).2)
      rw [hW4]
      obtain ⟨b, hb⟩ : ∃ b, wr.heap.size = b := ⟨_, rfl⟩
      rw [hb] at k4 HLT hsw ⊢
      have K4 : Hid (Blk W4 b 69 #[.int .i64 (-rdG s (innW l) j 0), .int .i64 (rdG s (outW l) j 0)]) := Lib.hid (by rw [g1, g2, Int.neg_neg]; exact k4)
      clear hW4 hb4 hb p1 p2 k4 HO HB g1 g2
      go_wp2_with fail
      go_loopw [8] (fun z wi => ∃ (u : Nat), u ≤ n ∧ z = .int .i64 u ∧ Hid (Blk wi b 69 #[.int .i64 (-rdG s (innW l) j u), .int .i64 (rdG s (outW l) j u)]) ∧ Hid (wi.ownsRow W.heap.size 69 2 sv j (smpCells ((rdL s l).take j))) ∧ Hid (Below W.heap.size W wi)) (fun z wi => n - (intOf z).toNat)
      case atStart => exact ⟨0, Nat.zero_le _, rfl, K4, HO4, HB4⟩
      case round =>
        clear K4 HO4 HB4
        obtain ⟨u, hu, rfl, K, HO, HB⟩ := hrel
        by_cases hul : u < n
        · have hxl : u < l.length := by have := HN.out; omega
          obtain ⟨ad', hA', ha1, p3, p4⟩ := (H.out.below HB.out (by omega)).at_ hxl
          cases hA'
          have t0 := (HK.out.below HB.out hbW).one.1
          have e1 : IntKind.i64.wrap ((u : Int) - j) = (u : Int) - j := IntWalk.i64_in _ (by omega)
          have e2 : IntKind.i64.wrap ((j : Int) - u) = (j : Int) - u := IntWalk.i64_in _ (by omega)
          have e4 : (if (u : Int) - j < (j : Int) - u then (j : Int) - u else (u : Int) - j) = ((dst u j : Nat) : Int) := by unfold dst; split <;> omega
          have gO : rdG s (outW l) j (u + 1) = if dst u j < s.length then min (rdG s (outW l) j u) (outW l u + atI s (dst u j)) else rdG s (outW l) j u := rfl
          have gI : rdG s (innW l) j (u + 1) = if dst u j < s.length then min (rdG s (innW l) j u) (innW l u + atI s (dst u j)) else rdG s (innW l) j u := rfl
          have b1 := HE.out.1 u hxl
          have b2 := HE.out.2 u hxl
          have v1 := HSH.out.nn (dst u j)
          have v2 := HSH.out.top (dst u j)
          have hh : ∀ a : Nat → Int, rdG s a j u = rdG s a j u := fun _ => rfl
          by_cases hd : dst u j < nf
          · have hd2 : dst u j < s.length := by have := HNF.out; omega
            obtain ⟨af, hAf, ha2, p5⟩ := (HL.out.below HB.out (by omega)).at_ hd2
            obtain rfl := hAf
            rw [if_pos hd2] at gO gI
            rw [innW_eq hxl] at b1 gI
            rw [outW_eq hxl] at b2 gO
            rw [atI_eq hd2] at gO gI v1 v2
            obtain ⟨q, hq⟩ : ∃ q, l[u] = q := ⟨_, rfl⟩
            rw [hq] at p3 p4 b1 b2 gO gI
            obtain ⟨v, hv⟩ : ∃ v, s[dst u j] = v := ⟨_, rfl⟩
            rw [hv] at p5 gO gI v1 v2
            clear hq hv hd2
            obtain ⟨d, hdd⟩ : ∃ d, dst u j = d := ⟨_, rfl⟩
            rw [hdd] at e4 p5 hd
            clear hdd
            obtain ⟨o1, ho1⟩ : ∃ x, rdG s (outW l) j (u + 1) = x := ⟨_, rfl⟩
            obtain ⟨i1, hi1⟩ : ∃ x, rdG s (innW l) j (u + 1) = x := ⟨_, rfl⟩
            have HO1 := Lib.hid ho1
            have HI1 := Lib.hid hi1
            rw [ho1] at gO
            rw [hi1] at gI
            obtain ⟨o, ho⟩ : ∃ x, rdG s (outW l) j u = x := ⟨_, rfl⟩
            obtain ⟨i, hi⟩ : ∃ x, -rdG s (innW l) j u = x := ⟨_, rfl⟩
            have hi' : rdG s (innW l) j u = -i := by omega
            rw [ho, hi] at K
            rw [ho] at gO
            rw [hi'] at gI
            have m1 : (if q.2 + v < o then q.2 + v else o) = o1 := by rw [gO]; split <;> omega
            have m2 : (if i < q.1 - v then q.1 - v else i) = -i1 := by rw [gI]; split <;> omega
            have e5 : IntKind.i64.wrap (q.2 + v) = q.2 + v := IntWalk.i64_in _ (by omega)
            have e6 : IntKind.i64.wrap (q.1 - v) = q.1 - v := IntWalk.i64_in _ (by omega)
            have c1 : (d : Int) < (nf : Int) := by omega
            clear ho1 hi1 ho hi hi' gO gI b1 b2 v1 v2 hh
            have hkb := K.out.lt
            have HP3 := Lib.hid p3
            have HP5 := Lib.hid p5
            have HT0 := Lib.hid t0
            obtain ⟨z0, z1, z2, z3, z4⟩ := K.out.two
            go_wp2_with fail
            go_still_tail 15, (by kernel_rfl)
            repeat still_step
            try refine wpStill_nil ?_
            change wpList _ _ _ _ _ wr.drew
            go_wp2_with fail
            obtain ⟨W5, hW5⟩ : ∃ W5, (wr.setCell ⟨b, 1, none⟩ (.int .i64 o1)).drew = W5 := ⟨_, rfl⟩
            have k5 : Blk W5 b 69 #[.int .i64 i, .int .i64 o1] := by rw [← hW5]; exact (K.out.set_ 1 _).drew
            have hg5 : wr.grownBy W5 (some b) := by rw [← hW5]; exact grown_drew (grown_setCell (World.grownBy.refl _ _) 1 _)
            have r3 := hg5.cell HP3.out (fun e => by have h := Option.some.inj e; rw [block_of_add] at h; omega)
            have r5 := hg5.cell HP5.out (fun e => by have h := Option.some.inj e; rw [block_of_add] at h; omega)
            have r0 := hg5.cell HT0.out (fun e => by have h := Option.some.inj e; have h : bt = b := h; omega)
            have HO5 := Lib.hid (HO.out.kept hg5 (by
              cases h : sv.ownBlock with
              | none => exact .inl rfl
              | some g => exact .inr (fun e => by have := Option.some.inj e; have := HLT.out g h; omega)))
            have HB5 := Lib.hid (HB.out.grown hg5 HB.out.size (fun q e => by cases e; exact hsw))
            have K5 := Lib.hid k5
            obtain ⟨y0, y1, y2, y3, y4⟩ := k5.two
            rw [hW5]
            clear hW5 hg5 k5 HO HB K z0 z1 z2 z3 z4 p3 p4 p5 t0 HP3 HP5 HT0
            go_still_tail 15, (by kernel_rfl)
            repeat still_step
            try refine wpStill_nil ?_
            change wpList _ _ _ _ _ W5.drew
            go_upto_region 8 with fail
            obtain ⟨W6, hW6⟩ : ∃ W6, (W5.setCell ⟨b, 0, none⟩ (.int .i64 (-i1))).drew = W6 := ⟨_, rfl⟩
            have K6 : Hid (Blk W6 b 69 #[.int .i64 (-rdG s (innW l) j (u + 1)), .int .i64 (rdG s (outW l) j (u + 1))]) := Lib.hid (by rw [← hW6, HI1.out, HO1.out]; exact (K5.out.set_ 0 _).drew)
            have hg6 : W5.grownBy W6 (some b) := by rw [← hW6]; exact grown_drew (grown_setCell (World.grownBy.refl _ _) 0 _)
            have HO6 := Lib.hid (HO5.out.kept hg6 (by
              cases h : sv.ownBlock with
              | none => exact .inl rfl
              | some g => exact .inr (fun e => by have := Option.some.inj e; have := HLT.out g h; omega)))
            have HB6 := Lib.hid (HB5.out.grown hg6 HB5.out.size (fun q e => by cases e; exact hsw))
            rw [hW6]
            clear hW6 hg6 HO5 HB5 K5 y0 y1 y2 y3 y4 r3 r5 r0
            go_wp2
            go_roundw
            case rel => exact ⟨u + 1, by omega, by go_num, K6, HO6, HB6⟩
            case measure => simp [intOf]; omega
          · have hd2 : ¬ dst u j < s.length := by have := HNF.out; omega
            rw [if_neg hd2] at gO gI
            have K6 : Hid (Blk wr b 69 #[.int .i64 (-rdG s (innW l) j (u + 1)), .int .i64 (rdG s (outW l) j (u + 1))]) := Lib.hid (by rw [gO, gI]; exact K.out)
            obtain ⟨d, hdd⟩ : ∃ d, dst u j = d := ⟨_, rfl⟩
            rw [hdd] at e4 hd
            have c1 : ¬ ((d : Int) < (nf : Int)) := by omega
            clear hdd gO gI hd2 b1 b2 v1 v2 hh K p3 p4
            go_wp2
            go_roundw
            case rel => exact ⟨u + 1, by omega, by go_num, K6, HO, HB⟩
            case measure => simp [intOf]; omega
        · obtain rfl : u = n := by omega
          obtain ⟨o, ho⟩ : ∃ x, rdG s (outW l) j u = x := ⟨_, rfl⟩
          obtain ⟨i, hi⟩ : ∃ x, -rdG s (innW l) j u = x := ⟨_, rfl⟩
          rw [ho, hi] at K HSN
          clear ho hi
          obtain ⟨x0, x1, -, -, -⟩ := K.out.two
          have hs6 := HB.out.size
          go_wp2_with (at_builtin; refine wpList_append_any _ rfl (.tmp 68) (.tmp 70) _ rfl W.heap.size 69 i0 _ 2 16 Try.underlying32 HI0.out HZ0.out HZ1.out HZ2.out rfl (by omega) sv j _ rfl (HO.out.alloc _) (wr.heap.size + 1) (some ⟨wr.heap.size, 0, none⟩) 1 1 [.int .i64 i, .int .i64 o] rfl (reads_cells (blk_al rfl) (Nat.lt_succ_self _) (by rfl) (by rfl)) (by intro u hu; simp at hu; rcases hu with rfl | rfl <;> rfl) (by unfold maxLen; omega) (by omega) (by simp; omega) ?_)
          intro v' w4 hown' hgrow _
          have HON : Hid (w4.ownsRow W.heap.size 69 2 v' (j + 1) (smpCells ((rdL s l).take (j + 1)))) := Lib.hid (by rw [HSN.out, smpCells_snoc]; exact hown')
          have HBN := Lib.hid ((HB.out.alloc HB.out.size (.cells #[.int .i64 i, .int .i64 o] 69)).grown hgrow (by simp; omega) (fun g hg => by have := (HO.out.lt g hg).1; omega))
          clear hown' hgrow
          go_wp2
          go_roundw
          case rel => exact ⟨j + 1, v', by omega, by go_num, rfl, HON, HBN⟩
          case measure => simp [intOf]; omega
    · obtain rfl : j = n := by omega
      obtain ⟨A', c', hv, hr, hc⟩ := own_readsC HO.out
      subst hv
      rw [List.take_of_length_le (by rw [rdL_len]; have := HN.out; omega)] at hr
      have HRD := Lib.hid hr
      clear hr
      go_wp2
      go_ret
      subst hbt
      exact ⟨A', j, c', rfl, ⟨by rw [rdL_len]; exact HN.out, HRD.out⟩, hc, HB0.out.trans (HB.out.mono hwW)⟩
end Go.Proofs.Ytjdnpgilinfkgaa
