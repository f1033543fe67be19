/- The walk of MeetSweeps. -/
import Derived.Test.YtegbicmfgblphaaMeeSw
import Derived.Test.YtegbicmfgblphaaMeeOwn
namespace Go.Proofs.Ytegbicmfgblphaa.mee
open Go.RowKit Go.Proofs.Ytegbicmfgblphaa.spn Go.Proofs.Ytegbicmfgblphaa.que Go.Proofs.Ytegbicmfgblphaa.sid Go.Proofs.Ytegbicmfgblphaa.bok
open Go.Proofs.Ytegbicmfgblphaa.ord (O oV mB mE chk meets_any)

/-- A side that is made level by level. -/
structure SwH (w : World) (base : Nat) (v : Value) (ps : List RP) : Prop where
  own : rlv.OwnQ w base v (ps.map (·.1))
  each : ∀ p ∈ ps, OwnQ w base (sv p.1) p.2
  far : ∀ p ∈ ps, ∀ x, blkR p.1 = some x → v.ownBlock ≠ some x
theorem SwH.ls {w : World} {base : Nat} {v : Value} {ps : List RP} (h : SwH w base v ps) : LS w v (ps.map toL) :=
  Loose.ls ⟨rlv.OwnQ.sl h.own, fun p hp => .inl (OwnQ.sl (h.each p hp))⟩
theorem SwH.grown {w W : World} {base : Nat} {v : Value} {ps : List RP} {R : Nat} (h : SwH w base v ps) (hg : w.grownBy W (some R)) (hR : R < base) : SwH W base v ps :=
  ⟨kept_of h.own hg (fun x hx e => by cases e; have := (OwnM.lt h.own _ hx).1; omega), fun p hp => kept_of (h.each p hp) hg (fun x hx e => by cases e; have := (OwnM.lt (h.each p hp) _ hx).1; omega), h.far⟩
theorem SwH.below {w W : World} {base : Nat} {v : Value} {ps : List RP} (h : SwH w base v ps) (hB : Below w.heap.size w W) : SwH W base v ps :=
  ⟨OwnM.below h.own hB, fun p hp => OwnM.below (h.each p hp) hB, h.far⟩
/-- One level more. -/
theorem SwH.next {w w1 w2 W : World} {base : Nat} {v v' : Value} {ps : List RP} {p a b c d e : Int} (h : SwH w base v ps) (hb : base ≤ w.heap.size)
    (h1 : w1 = w.alloc (.cells #[.int .i64 a, .int .i64 b, .int .i64 c, .int .i64 d, .int .i64 e] 28)) (h2 : w2 = w1.alloc (.cells #[.int .i64 p, .slice (some ⟨w.heap.size, 0, none⟩) 1 1] 31))
    (hO : OwnM W base 31 2 v' (ps.length + 1) (rlv.flat (ps.map (·.1)) ++ [.int .i64 p, .slice (some ⟨w.heap.size, 0, none⟩) 1 1])) (hg : w2.grownBy W v.ownBlock) (hv : v'.ownBlock = v.ownBlock ∨ v'.ownBlock = some w2.heap.size) :
    SwH W base v' (ps ++ [(⟨p, some ⟨w.heap.size, 0, none⟩, 1, 1⟩, [⟨a, b, c, d, e⟩])]) := by
  have hB1 : Below w.heap.size w w1 := by rw [h1]; exact (Below.refl _ _).alloc (Nat.le_refl _) _
  have hB2 : Below w1.heap.size w1 w2 := by rw [h2]; exact (Below.refl _ _).alloc (Nat.le_refl _) _
  have hB : Below w.heap.size w w2 := hB1.trans (hB2.mono hB1.size)
  have hs1 : w1.heap.size = w.heap.size + 1 := by rw [h1]; simp
  have hs2 : w2.heap.size = w.heap.size + 2 := by rw [h2]; simp [hs1]
  have hnew : OwnQ w1 base (.slice (some ⟨w.heap.size, 0, none⟩) 1 1) [⟨a, b, c, d, e⟩] := by
    refine ⟨rfl, .inr ⟨w.heap.size, 0, 1, _, rfl, hb, by rw [h1]; exact heap_alloc_new w _, Nat.le_refl _, by unfold maxLen; omega, by simp, rfl⟩⟩
  refine ⟨?_, fun y hy => ?_, fun y hy x hx => ?_⟩
  · show OwnM _ _ _ _ _ _ _
    rw [List.map_append, rlv.flat_append, List.length_append, List.length_map]
    exact hO
  · rcases List.mem_append.1 hy with hy | hy
    · exact kept_of (OwnM.below (h.each y hy) hB) hg (fun x hx e => h.far y hy x hx e)
    · simp only [List.mem_singleton] at hy
      subst hy
      refine kept_of (OwnM.below hnew hB2) hg (fun x hx e => ?_)
      have h3 : x = w.heap.size := by simpa [sv, Value.ownBlock] using hx.symm
      have := (OwnM.lt h.own x e).2
      omega
  · rcases List.mem_append.1 hy with hy | hy
    · rcases hv with e | e
      · rw [e]; exact h.far y hy x hx
      · rw [e]
        have := (OwnM.lt (h.each y hy) x hx).2
        intro e2
        simp at e2
        omega
    · simp only [List.mem_singleton] at hy
      subst hy
      have h3 : x = w.heap.size := by simpa [blkR, sv, Value.ownBlock] using hx.symm
      rcases hv with e | e
      · rw [e]
        intro e2
        have := (OwnM.lt h.own x e2).2
        omega
      · rw [e]
        intro e2
        simp at e2
        omega

set_option maxRecDepth 100000 in
set_option maxHeartbeats 4000000 in
theorem sweeps_walk (n qty want : Int) (w : World) :
    Calls Try.prog 4 #[.int .i64 n, .int .i64 qty, .int .i64 want] w fun e w' => e = .returned (.bool true) ∧ Below w.heap.size w w' := by
  by_cases a1 : n < 1
  · go_enter Try.func4, Try.ntmps4
    go_wp2_with fail
    go_ret
    exact ⟨rfl, Below.refl _ _⟩
  by_cases a2 : 30 < n
  · go_enter Try.func4, Try.ntmps4
    go_wp2_with fail
    go_ret
    exact ⟨rfl, Below.refl _ _⟩
  by_cases a3 : qty < 1
  · go_enter Try.func4, Try.ntmps4
    go_wp2_with fail
    go_ret
    exact ⟨rfl, Below.refl _ _⟩
  by_cases a4 : 100 < qty
  · go_enter Try.func4, Try.ntmps4
    go_wp2_with fail
    go_ret
    exact ⟨rfl, Below.refl _ _⟩
  by_cases a5 : want < 1
  · go_enter Try.func4, Try.ntmps4
    go_wp2_with fail
    go_ret
    exact ⟨rfl, Below.refl _ _⟩
  by_cases a6 : 10000 < want
  · go_enter Try.func4, Try.ntmps4
    go_wp2_with fail
    go_ret
    exact ⟨rfl, Below.refl _ _⟩
  obtain ⟨N, rfl⟩ : ∃ N : Nat, n = (N : Int) := ⟨n.toNat, by omega⟩
  have HA : Hid ((1 ≤ N ∧ N ≤ 30) ∧ (1 ≤ qty ∧ qty ≤ 100) ∧ 1 ≤ want ∧ want ≤ 10000) := ⟨⟨by omega, by omega⟩, ⟨by omega, by omega⟩, by omega, by omega⟩
  have hN30 : N ≤ 30 := by omega
  obtain ⟨V, hV⟩ : ∃ V, V = w.alloc (.cells #[.slice none 0 0, .slice none 0 0] 24) := ⟨_, rfl⟩
  have HB : Hid (Below w.heap.size w V) := by rw [hV]; exact (Below.refl _ _).alloc (Nat.le_refl _) _
  have hRV : V.heap[w.heap.size]? = some (.cells #[.slice none 0 0, .slice none 0 0] 24 (0, 0)) := by rw [hV]; exact heap_alloc_new w _
  have hVs : V.heap.size = w.heap.size + 1 := by rw [hV]; simp
  have HVS : Hid (V.heap.size = w.heap.size + 1) := hVs
  obtain ⟨i0, hi0, hz0, hz1, hz2⟩ := rlv.infoR'
  have HI : Hid (Try.prog.info? 31 = some i0) := hi0
  clear hi0 hVs
  go_enter Try.func4, Try.ntmps4
  go_wp2_with fail
  rw [← hV]
  clear hV a1 a2 a3 a4 a5 a6
  go_loopg [8] N (fun gg s8 wr => ∃ (kk : Nat) (vq : Option Addr) (vn vc : Nat) (ps : List RP), kk ≤ N ∧ N - kk ≤ gg ∧ s8 = .int .i64 kk ∧ Aside (ps.map toL = swL 0 qty kk ∧ SwH wr V.heap.size (.slice vq vn vc) ps ∧ wr.heap[w.heap.size]? = some (.cells #[.slice none 0 0, .slice vq vn vc] 24 (0, 0)) ∧ Below w.heap.size w wr ∧ V.heap.size ≤ wr.heap.size))
  case atStart => exact ⟨0, none, 0, 0, [], Nat.zero_le _, by omega, rfl, rfl, ⟨⟨rfl, .inl ⟨rfl, rfl⟩⟩, (fun p hp => by cases hp), (fun p hp => by cases hp)⟩, hRV, HB.out, Nat.le_refl _⟩
  case round =>
    obtain ⟨kk, vq, vn, vc, ps, hkk, hg, rfl, hA⟩ := hrel
    obtain ⟨e1, e2, e3, e4, e5⟩ := hA.out
    have HA1 : Hid (ps.map toL = swL 0 qty kk ∧ SwH wr V.heap.size (.slice vq vn vc) ps ∧ Below w.heap.size w wr ∧ V.heap.size ≤ wr.heap.size) := ⟨e1, e2, e4, e5⟩
    have HR : Hid (wr.heap[w.heap.size]? = some (.cells #[.slice none 0 0, .slice vq vn vc] 24 (0, 0))) := e3
    clear hA e1 e2 e4 e5 e3
    obtain ⟨c0, c1, cf⟩ := rowTwo HR.out
    have cf1 := cf 1
    by_cases hlt : kk < N
    · have hltz : (kk : Int) < (N : Int) := by omega
      have k1 : wrap64 (100 + (kk : Int)) = 100 + (kk : Int) := by unfold wrap64; omega
      have k2 : wrap64 ((kk : Int) + 1) = (kk : Int) + 1 := by unfold wrap64; omega
      have hwl : w.heap.size < wr.heap.size := (Array.getElem?_eq_some_iff.1 HR.out).1
      obtain ⟨w1, h1⟩ : ∃ w1, w1 = wr.alloc (.cells #[.int .i64 ((kk : Int) + 1), .int .i64 1, .int .i64 qty, .int .i64 0, .int .i64 0] 28) := ⟨_, rfl⟩
      obtain ⟨w2, h2⟩ : ∃ w2, w2 = w1.alloc (.cells #[.int .i64 (100 + (kk : Int)), .slice (some ⟨wr.heap.size, 0, none⟩) 1 1] 31) := ⟨_, rfl⟩
      have hs1 : w1.heap.size = wr.heap.size + 1 := by rw [h1]; simp
      have hB2 : Below wr.heap.size wr w2 := by rw [h2, h1]; exact ((Below.refl _ _).alloc (Nat.le_refl _) _).alloc (by simp) _
      have HO : Hid (OwnM w2 V.heap.size 31 2 (.slice vq vn vc) ps.length (rlv.flat (ps.map (·.1)))) := by
        have h := OwnM.below HA1.out.2.1.own hB2
        have h' : OwnM w2 V.heap.size 31 2 (.slice vq vn vc) (ps.map (·.1)).length (rlv.flat (ps.map (·.1))) := h
        rw [List.length_map] at h'
        exact h'
      have HNW : Hid (∀ j u, ([.int .i64 (100 + (kk : Int)), .slice (some ⟨wr.heap.size, 0, none⟩) 1 1] : List Value)[j]? = some u → w2.cell? ((⟨wr.heap.size + 1, 0, none⟩ : Addr).add j) = some u) := by
        have hb : w2.heap[wr.heap.size + 1]? = some (.cells #[.int .i64 (100 + (kk : Int)), .slice (some ⟨wr.heap.size, 0, none⟩) 1 1] 31 (0, 0)) := by
          rw [← hs1, h2]; exact heap_alloc_new w1 _
        exact World.news_of_block (cs := #[.int .i64 (100 + (kk : Int)), .slice (some ⟨wr.heap.size, 0, none⟩) 1 1]) hb
      have hpl : ps.length = kk := by
        have := congrArg List.length HA1.out.1
        rw [List.length_map, swL_len] at this
        exact this
      have HRX : Hid (w2.heap[w.heap.size]? = some (.cells #[.slice none 0 0, .slice vq vn vc] 24 (0, 0))) := (hB2.block _ hwl).trans HR.out
      have HH : Hid (w1 = wr.alloc (.cells #[.int .i64 ((kk : Int) + 1), .int .i64 1, .int .i64 qty, .int .i64 0, .int .i64 0] 28) ∧ w2 = w1.alloc (.cells #[.int .i64 (100 + (kk : Int)), .slice (some ⟨wr.heap.size, 0, none⟩) 1 1] 31) ∧ w2.heap.size = wr.heap.size + 2) := ⟨h1, h2, by rw [h2]; simp [hs1]⟩
      have hVw : V.heap.size ≤ w2.heap.size := Nat.le_trans HA1.out.2.2.2 hB2.size
      have HPL : Hid (ps.length = kk) := hpl
      clear h1 h2 hpl
      go_wp2_with (at_builtin; (rw [← HH.out.1, ← HH.out.2.1]; refine wpList_append_mid _ rfl _ _ 22 rfl V.heap.size 31 i0 rlv.zeroR 2 32 Try.underlying22 HI.out hz0 hz1 hz2 rfl (.slice vq vn vc) ps.length (rlv.flat (ps.map (·.1))) rfl HO.out ⟨wr.heap.size + 1, 0, none⟩ 1 1 [.int .i64 (100 + (kk : Int)), .slice (some ⟨wr.heap.size, 0, none⟩) 1 1] rfl rfl HNW.out (by simp [Value.oneCell']) ?c3 ?c4 ?c5 ?_))
      case c3 => rw [HPL.out]; unfold maxLen; clear k1 k2; omega
      case c4 => rw [HPL.out]; clear k1 k2; omega
      case c5 => exact hVw
      intro v' w' hO' hgr hat
      obtain ⟨vq', vc', hv'⟩ := OwnM.form hO'
      subst hv'
      have hnx := SwH.next HA1.out.2.1 HA1.out.2.2.2 HH.out.1 HH.out.2.1 hO' hgr (hat.imp id (fun h => by rw [h, HH.out.2.2]))
      have hne : (Value.slice vq vn vc).ownBlock ≠ some w.heap.size := fun e => by
        have := (OwnM.lt HO.out _ e).1
        have := HVS.out
        clear k1 k2
        omega
      have hRX := (hgr.block w.heap.size (Nat.lt_of_lt_of_le hwl hB2.size) (fun e => hne e.symm)).trans HRX.out
      obtain ⟨x0, x1, xf⟩ := rowTwo hRX
      have xf1 := xf 1
      have hset := setOne1 hRX (.slice vq' (ps.length + 1) vc')
      have hgs := gr_setCell w' w.heap.size 1 (.slice vq' (ps.length + 1) vc')
      have HN : Aside ((ps ++ [((⟨100 + (kk : Int), some ⟨wr.heap.size, 0, none⟩, 1, 1⟩ : rlv.RL), ([⟨(kk : Int) + 1, 1, qty, 0, 0⟩] : List R))]).map toL = swL 0 qty (kk + 1) ∧ SwH (w'.setCell ⟨w.heap.size, 1, none⟩ (.slice vq' (ps.length + 1) vc')) V.heap.size (.slice vq' (ps.length + 1) vc') (ps ++ [((⟨100 + (kk : Int), some ⟨wr.heap.size, 0, none⟩, 1, 1⟩ : rlv.RL), ([⟨(kk : Int) + 1, 1, qty, 0, 0⟩] : List R))]) ∧ (w'.setCell ⟨w.heap.size, 1, none⟩ (.slice vq' (ps.length + 1) vc')).heap[w.heap.size]? = some (.cells #[.slice none 0 0, .slice vq' (ps.length + 1) vc'] 24 (0, 0)) ∧ Below w.heap.size w (w'.setCell ⟨w.heap.size, 1, none⟩ (.slice vq' (ps.length + 1) vc')) ∧ V.heap.size ≤ (w'.setCell ⟨w.heap.size, 1, none⟩ (.slice vq' (ps.length + 1) vc')).heap.size) := by
        refine ⟨?_, hnx.grown hgs (by have := HVS.out; clear k1 k2; omega), hset, ?_, ?_⟩
        · rw [List.map_append, HA1.out.1, swL_snoc]
          simp [toL]
        · have h3 : Below w.heap.size w w2 := HA1.out.2.2.1.trans (hB2.mono HA1.out.2.2.1.size)
          have h4 : Below w.heap.size w w' := h3.grown hgr h3.size (fun k hk => by have := (OwnM.lt HO.out k hk).1; have := HVS.out; clear k1 k2; omega)
          exact h4.grown hgs h4.size (fun k hk => by cases hk; exact Nat.le_refl _)
        · exact Nat.le_trans hVw (Nat.le_trans hgr.size hgs.size)
      clear hO' hgr hat hnx hne hRX xf hset hgs hB2 hs1 HNW HO HRX HH
      go_wp2_with fail
      go_roundg (N - (kk + 1))
      case measure => clear k1 k2; omega
      case rel => exact ⟨kk + 1, vq', _, vc', _, hlt, Nat.le_refl _, by go_num, HN⟩
    · have hltz : ¬ (kk : Int) < (N : Int) := by omega
      obtain rfl : kk = N := by omega
      obtain ⟨⟨b1, b2⟩, ⟨b3, b4⟩, b5, b6⟩ := HA.out
      have HLS : Hid (LS wr (.slice vq vn vc) (swL 0 qty kk)) := by rw [← HA1.out.1]; exact HA1.out.2.1.ls
      have hcome := sw_come (n := kk) b2 b3 b4 b5 b6
      have hSW := sw_taken (o := ⟨99, 2, 1, 2, 0, want, 0, 0⟩) (fun p => rfl) b3 b4 kk 0 want (by omega) (by omega)
      have hmet : metR [] (swL 0 qty kk) ⟨99, 2, 1, 2, 0, want, 0, 0⟩ = tkl ⟨99, 2, 1, 2, 0, want, 0, 0⟩ (swL 0 qty kk) want := rfl
      have hdo : doE [] (swL 0 qty kk) ⟨99, 2, 1, 2, 0, want, 0, 0⟩ = 0 := by
        unfold doE
        rw [if_pos hcome, if_neg (by rw [hmet]; have := hSW.len; omega)]
      have HDO : Hid (Calls Try.prog 8 #[.agg #[.slice none 0 0, .slice vq vn vc], .agg #[.int .i64 99, .int .i64 2, .int .i64 1, .int .i64 2, .int .i64 0, .int .i64 want, .int .i64 0, .int .i64 0]] wr fun e w' => ∃ u1 u2 m1 m2 k1 k2 tv, e = .returned (.tuple #[.agg #[.slice u1 m1 k1, .slice u2 m2 k2], tv, .int .i64 (tkl ⟨99, 2, 1, 2, 0, want, 0, 0⟩ (swL 0 qty kk) want).2.2, .nilIface]) ∧ OwnT w' wr.heap.size tv (tkl ⟨99, 2, 1, 2, 0, want, 0, 0⟩ (swL 0 qty kk) want).2.1 ∧ Below wr.heap.size wr w') := by
        refine (do_any none vq 0 vn 0 vc [] (swL 0 qty kk) 99 2 1 2 0 want 0 0 wr (ls_nil _) HLS.out).mono ?_
        rintro e w' ⟨i1, -, i3⟩
        obtain ⟨u1, u2, m1, m2, k1, k2, tv, rfl, -, -, hT⟩ := i1 hdo
        exact ⟨u1, u2, m1, m2, k1, k2, tv, by rw [hmet], by rw [hmet] at hT; exact hT, i3⟩
      have HSW : Hid (SwR 0 (tkl ⟨99, 2, 1, 2, 0, want, 0, 0⟩ (swL 0 qty kk) want) kk qty want) := hSW
      have HWr : Hid (Below w.heap.size w wr) := HA1.out.2.2.1
      have hAL : 0 ≤ (kk : Int) * qty ∧ (kk : Int) * qty ≤ 3000 := ⟨Int.mul_nonneg (by omega) (by omega), by
        have h := Int.mul_le_mul (a := (kk : Int)) (b := qty) (c := 30) (d := 100) (by omega) b4 (by omega) (by omega)
        omega⟩
      clear hcome hSW hmet hdo HLS cf b1 b2
      obtain ⟨AL, hALe⟩ : ∃ AL, (kk : Int) * qty = AL := ⟨_, rfl⟩
      have HALE : Hid ((kk : Int) * qty = AL ∧ 0 ≤ AL ∧ AL ≤ 3000) := ⟨hALe, by rw [← hALe]; exact hAL⟩
      have hAw : wrap64 ((kk : Int) * qty) = AL := by rw [hALe]; rw [hALe] at hAL; unfold wrap64; omega
      clear hAL hALe
      generalize tkl ⟨99, 2, 1, 2, 0, want, 0, 0⟩ (swL 0 qty kk) want = RR at HDO HSW
      obtain ⟨R1, ts, left⟩ := RR
      simp only [] at HDO
      go_wp2_with fail
      refine HDO.out.mono ?_
      rintro e w3 ⟨u1, u2, m1, m2, k1', k2', tv, rfl, hT, b3'⟩
      obtain ⟨tq, tc, htv⟩ := OwnM.form hT
      subst htv
      have hBa : Below w3.heap.size w3 (w3.alloc (.cells #[.slice u1 m1 k1', .slice u2 m2 k2'] 24)) := (Below.refl _ _).alloc (Nat.le_refl _) _
      have HT : Hid (OwnT (w3.alloc (.cells #[.slice u1 m1 k1', .slice u2 m2 k2'] 24)) wr.heap.size (.slice tq ts.length tc) ts) := OwnM.below hT hBa
      have HBf : Hid (Below w.heap.size w (w3.alloc (.cells #[.slice u1 m1 k1', .slice u2 m2 k2'] 24))) := (HWr.out.trans (b3'.mono HWr.out.size)).trans (hBa.mono (HWr.out.trans (b3'.mono HWr.out.size)).size)
      clear hT b3' hBa
      go_upto_region 11 with fail
      generalize w3.alloc (.cells #[.slice u1 m1 k1', .slice u2 m2 k2'] 24) = W at *
      generalize htl : ts.length = tl at *
      have HTL : Hid (ts.length = tl) := htl
      have htl30 : tl ≤ 30 := by have := HSW.out.len; simp only [] at this; omega
      have HBN : Hid ((1 ≤ qty ∧ qty ≤ 100) ∧ (1 ≤ want ∧ want ≤ 10000) ∧ tl ≤ 30) := ⟨⟨b3, b4⟩, ⟨b5, b6⟩, htl30⟩
      have HAW : Hid (wrap64 ((kk : Int) * qty) = AL) := hAw
      clear htl c0 c1 cf1 HR HA1 b3 b4 b5 b6 htl30 hN30 hkk hg hlt
      go_wp2_with fail
      rw [HAW.out]
      clear hAw
      try clear hltz
      go_loopg [14] tl (fun gg s14 wy => ∃ jj : Nat, jj ≤ tl ∧ tl - jj ≤ gg ∧ s14 = .int .i64 jj ∧ wy = W)
      case atStart => exact ⟨0, Nat.zero_le _, by omega, rfl, rfl⟩
      case round =>
        obtain ⟨jj, hjj, hg2, rfl, rfl⟩ := hrel
        by_cases hjl : jj < tl
        · have hjz : (jj : Int) < (tl : Int) := by omega
          have hjt : jj < ts.length := by rw [HTL.out]; exact hjl
          obtain ⟨g, off, htq, -, d0, -, -, -, d4, -⟩ := OwnT.at (by have h := HT.out; rw [← HTL.out] at h; exact h) hjt
          subst htq
          have hsw := HSW.out.each jj hjt
          simp only [Nat.zero_add] at hsw
          rw [hsw.1] at d4
          rw [hsw.2] at d0
          have j1 : ¬ ((jj : Int) < 0) := Int.not_lt.2 (Int.natCast_nonneg _)
          have hb := HBN.out.2.2
          have J2 : Hid (wrap64 (100 + (jj : Int)) = 100 + (jj : Int)) := by show _ = _; unfold wrap64; omega
          have J3 : Hid (wrap64 ((jj : Int) + 1) = (jj : Int) + 1) := by show _ = _; unfold wrap64; omega
          have HM : Hid (tl - (jj + 1) < gk ∧ jj < tl) := ⟨by omega, hjl⟩
          clear hsw hb hjl hjj hg2 hjt
          have j2 := J2.out
          have j3 := J3.out
          go_wp2_with fail
          go_roundg (tl - (jj + 1))
          case measure => exact HM.out.1
          case rel => exact ⟨jj + 1, HM.out.2, Nat.le_refl _, by go_num, rfl⟩
        · have hjz : ¬ (jj : Int) < (tl : Int) := by omega
          by_cases hmo : AL ≤ want
          · obtain ⟨f1, f2⟩ := HSW.out.more (by rw [HALE.out.1]; exact hmo)
            simp only [] at f1 f2
            have f3 : (tl : Int) = (kk : Int) := by rw [← HTL.out, f1]
            have f4 : wrap64 (want - AL) = left := by have h := HALE.out; have h2 := HBN.out; rw [h.1] at f2; rw [f2]; unfold wrap64; omega
            have F : Hid ((tl : Int) = (kk : Int) ∧ wrap64 (want - AL) = left) := ⟨f3, f4⟩
            clear f1 f2 f3 f4 hjj hg2 hjl
            obtain ⟨f3, f4⟩ := F.out
            go_wp2_with fail
            go_ret
            exact ⟨rfl, HBf.out⟩
          · obtain ⟨f1, f2⟩ := HSW.out.less (by rw [HALE.out.1]; exact hmo)
            simp only [] at f1 f2
            subst f1
            rw [HTL.out] at f2
            have hbn := HBN.out
            have G1 : Hid (wrap64 (want + qty) = want + qty) := by show _ = _; clear f2; unfold wrap64; omega
            have G2 : Hid (wrap64 (want + qty - 1) = want + qty - 1) := by show _ = _; clear f2; unfold wrap64; omega
            have G3 : Hid ((tl : Int) = (want + qty - 1) / qty) := f2
            have hq0 : ¬ qty = 0 := by omega
            clear f2 hbn hjj hg2 hjl
            have G4 : Hid (wrap64 ((want + qty - 1).tdiv qty) = (tl : Int)) := by
              show _ = _
              have hbn := HBN.out
              rw [Int.tdiv_eq_ediv_of_nonneg (by omega), ← G3.out]
              unfold wrap64
              omega
            have g1 := G1.out
            have g2 := G2.out
            have g4 := G4.out
            go_wp2_with fail
            go_ret
            exact ⟨rfl, HBf.out⟩
end Go.Proofs.Ytegbicmfgblphaa.mee
