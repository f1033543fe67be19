/- Contracts over this seat's translation: book.Fresh, whose sides lie apart; swap.replace. -/
import Derived.Test.YtjphhieloicdeaaSwpPure
import Derived.Test.YtjphhieloicdeaaMeeTake
namespace Go.Proofs.Ytjphhieloicdeaa.swp
open Go.RowKit Go.Proofs.Ytjphhieloicdeaa.spn Go.Proofs.Ytjphhieloicdeaa.que Go.Proofs.Ytjphhieloicdeaa.sid Go.Proofs.Ytjphhieloicdeaa.bok

/-- Two sides in memory of the call's own, all rests apart, in blocks below one. -/
structure Two (w : World) (base F : Nat) (v1 v2 : Value) (pa pb : List RP) : Prop where
  own1 : rlv.OwnQ w base v1 (pa.map (·.1))
  own2 : rlv.OwnQ w base v2 (pb.map (·.1))
  each : ∀ p ∈ pa ++ pb, OwnQ w base (sv p.1) p.2
  apart : (pa ++ pb).Pairwise AP
  far : ∀ p ∈ pa ++ pb, ∀ x, blkR p.1 = some x → v1.ownBlock ≠ some x ∧ v2.ownBlock ≠ some x ∧ x < F
theorem Two.deep1 {w : World} {base F : Nat} {v1 v2 : Value} {pa pb : List RP} (h : Two w base F v1 v2 pa pb) : Deep w base v1 pa :=
  ⟨by rw [List.append_nil]; exact h.own1, fun p hp => h.each p (List.mem_append_left _ hp), (List.pairwise_append.1 h.apart).1, fun p hp x hx => (h.far p (List.mem_append_left _ hp) x hx).1⟩
theorem Two.deep2 {w : World} {base F : Nat} {v1 v2 : Value} {pa pb : List RP} (h : Two w base F v1 v2 pa pb) : Deep w base v2 pb :=
  ⟨by rw [List.append_nil]; exact h.own2, fun p hp => h.each p (List.mem_append_right _ hp), (List.pairwise_append.1 h.apart).2.1, fun p hp x hx => (h.far p (List.mem_append_right _ hp) x hx).2.1⟩
theorem Two.below {w w' : World} {base F : Nat} {v1 v2 : Value} {pa pb : List RP} (h : Two w base F v1 v2 pa pb) (hB : Below w.heap.size w w') : Two w' base F v1 v2 pa pb :=
  ⟨OwnM.below h.own1 hB, OwnM.below h.own2 hB, fun p hp => OwnM.below (h.each p hp) hB, h.apart, h.far⟩
theorem Two.mono {w : World} {base base' F F' : Nat} {v1 v2 : Value} {pa pb : List RP} (h : Two w base F v1 v2 pa pb) (hb : base' ≤ base) (hF : F ≤ F') : Two w base' F' v1 v2 pa pb :=
  ⟨OwnM.mono h.own1 hb, OwnM.mono h.own2 hb, fun p hp => OwnM.mono (h.each p hp) hb, h.apart, fun p hp x hx => ⟨(h.far p hp x hx).1, (h.far p hp x hx).2.1, Nat.lt_of_lt_of_le (h.far p hp x hx).2.2 hF⟩⟩
/-- The rests of one level have become others, in their block. -/
theorem Two.set {w w' : World} {base F : Nat} {v1 v2 : Value} {pa pb A B : List RP} {x : RP} {zs : List R} (h : Two w base F v1 v2 pa pb) (e : pa ++ pb = A ++ x :: B) (hg : w.grownBy w' (blkR x.1)) (ho : OwnQ w' base (sv x.1) zs) :
    ∃ qa qb, Two w' base F v1 v2 qa qb ∧ qa ++ qb = A ++ (x.1, zs) :: B ∧ qa.length = pa.length := by
  have hm : (A ++ (x.1, zs) :: B).map (·.1) = (pa ++ pb).map (·.1) := by rw [e]; simp
  have hlen : (A ++ (x.1, zs) :: B).length = (pa ++ pb).length := by rw [e]; simp
  have hxm : x ∈ pa ++ pb := by rw [e]; simp
  have ha : (A ++ x :: B).Pairwise AP := by rw [← e]; exact h.apart
  obtain ⟨p1, p2, p3⟩ := List.pairwise_append.1 ha
  obtain ⟨p4, p5⟩ := List.pairwise_cons.1 p2
  refine ⟨(A ++ (x.1, zs) :: B).take pa.length, (A ++ (x.1, zs) :: B).drop pa.length, ⟨?_, ?_, ?_, ?_, ?_⟩, List.take_append_drop _ _, by rw [List.length_take, hlen, List.length_append]; omega⟩
  · rw [List.map_take, hm, List.map_append, List.take_left' (by simp)]
    exact kept_of h.own1 hg (fun z hz e => (h.far x hxm z e).1 hz)
  · rw [List.map_drop, hm, List.map_append, List.drop_left' (by simp)]
    exact kept_of h.own2 hg (fun z hz e => (h.far x hxm z e).2.1 hz)
  · rw [List.take_append_drop]
    intro p hp
    rcases List.mem_append.1 hp with hp | hp
    · exact kept_of (h.each p (by rw [e]; simp [hp])) hg (fun z hz e => p3 p hp x (by simp) z hz e)
    · rcases List.mem_cons.1 hp with rfl | hp
      · exact ho
      · exact kept_of (h.each p (by rw [e]; simp [hp])) hg (fun z hz e => p4 p hp z e hz)
  · rw [List.take_append_drop]
    have h1 : ((A ++ (x.1, zs) :: B).map (·.1)).Pairwise (fun a b : rlv.RL => ∀ x, blkR a = some x → blkR b ≠ some x) := by
      rw [hm, List.pairwise_map]
      exact h.apart
    rw [List.pairwise_map] at h1
    exact h1
  · rw [List.take_append_drop]
    intro p hp z hz
    have h1 : p.1 ∈ (pa ++ pb).map (·.1) := by rw [← hm]; exact List.mem_map.2 ⟨p, hp, rfl⟩
    obtain ⟨p0, hp0, e0⟩ := List.mem_map.1 h1
    exact h.far p0 hp0 z (by rw [e0]; exact hz)
theorem fr_two {W0 Wa Wb X : World} {base R : Nat} {va vb : Value} {bs ss : List L} (ha : DL Wa W0.heap.size va bs) (h0 : W0.heap.size ≤ Wa.heap.size) (hb : DL Wb Wa.heap.size vb ss) (h2 : Below Wa.heap.size Wa Wb) (hg : Wb.grownBy X (some R)) (hR : R < W0.heap.size) (hB : base ≤ W0.heap.size) :
    ∃ pa pb, pa.map toL = bs ∧ pb.map toL = ss ∧ Two X base X.heap.size va vb pa pb := by
  obtain ⟨pa, ea, Da⟩ := ha
  obtain ⟨pb, eb, Db⟩ := hb
  have hs2 := h2.size
  have hs3 := hg.size
  have DX : Deep X W0.heap.size va pa := (Da.below h2).other hg hR
  have EX : Deep X Wa.heap.size vb pb := Db.other hg (by omega)
  refine ⟨pa, pb, ea, eb, ?_, ?_, ?_, ?_, ?_⟩
  · have := (DX.mono hB).own; rwa [List.append_nil] at this
  · have := (EX.mono (base' := base) (by omega)).own; rwa [List.append_nil] at this
  · intro p hp
    rcases List.mem_append.1 hp with hp | hp
    · exact (DX.mono hB).each p hp
    · exact (EX.mono (base' := base) (by omega)).each p hp
  · refine List.pairwise_append.2 ⟨DX.apart, EX.apart, fun p hp q hq x hx e => ?_⟩
    have := (OwnM.lt (Da.each p hp) x hx).2
    have := (OwnM.lt (Db.each q hq) x e).1
    omega
  · intro p hp x hx
    rcases List.mem_append.1 hp with hp | hp
    · have k1 := (OwnM.lt (Da.each p hp) x hx).2
      refine ⟨DX.far p hp x hx, fun e => ?_, by omega⟩
      have := (OwnM.lt Db.own x e).1
      omega
    · have k1 := (OwnM.lt (Db.each p hp) x hx)
      refine ⟨fun e => ?_, EX.far p hp x hx, by omega⟩
      have := (OwnM.lt Da.own x e).2
      omega
/-- What 'Fresh' answers of a book. -/
def BTPost (bs ss : List L) (w : World) (e : Ending) (w' : World) : Prop :=
  ∃ q1 q2 n1 n2 c1 c2 pa pb, e = .returned (.agg #[.slice q1 n1 c1, .slice q2 n2 c2]) ∧ Below w.heap.size w w' ∧ pa.map toL = bs ∧ pb.map toL = ss ∧ Two w' w.heap.size w'.heap.size (.slice q1 n1 c1) (.slice q2 n2 c2) pa pb

set_option maxRecDepth 100000 in
set_option maxHeartbeats 4000000 in
theorem bfresh_two (q1 q2 : Option Addr) (n1 n2 c1 c2 : Nat) (bs ss : List L) (w : World) (h1 : LS w (.slice q1 n1 c1) bs) (h2 : LS w (.slice q2 n2 c2) ss) (k1 : schk 1 bs = 0) (k2 : schk 2 ss = 0) :
    Calls Try.prog 39 #[.agg #[.slice q1 n1 c1, .slice q2 n2 c2]] w fun e w' => BTPost bs ss w e w' := by
  have hlen : ∀ {t : Int} {xs : List L}, schk t xs = 0 → xs.length ≤ 1000 ∧ (∀ l ∈ xs, l.rests.length ≤ 1000) := fun {t xs} hk => by
    obtain ⟨-, z2, z3, -⟩ := schk_zero hk
    have := len_cnt (sgo_each z2)
    exact ⟨by omega, fun l hl => by have := rests_le hl; omega⟩
  obtain ⟨V2, hV2⟩ : ∃ V2, V2 = w.alloc (.cells #[.slice q1 n1 c1, .slice q2 n2 c2] 24) := ⟨_, rfl⟩
  have HB2 : Hid (Below w.heap.size w V2) := by rw [hV2]; exact (Below.refl _ _).alloc (Nat.le_refl _) _
  have hs2 : V2.heap.size = w.heap.size + 1 := by rw [hV2]; simp
  have HF1 : Hid (∀ W, Below V2.heap.size V2 W → W.heap[V2.heap.size]? = some (.cells #[.slice none 0 0, .slice none 0 0] 24 (0, 0)) → Calls Try.prog 45 #[.slice q1 n1 c1] W fun e w' => ∃ q m c, e = .returned (.slice q m c) ∧ DL w' W.heap.size (.slice q m c) bs ∧ Below W.heap.size W w' ∧ Below V2.heap.size V2 w' ∧ w'.heap[V2.heap.size]? = some (.cells #[.slice none 0 0, .slice none 0 0] 24 (0, 0))) := fun W hW hWR => by
    refine (fresh_any _ bs W (h1.below (HB2.out.trans (hW.mono HB2.out.size))) (hlen k1).1 (hlen k1).2 (side_ne k1)).mono ?_
    rintro e w' ⟨v', ps, rfl, hps, hD, b1⟩
    obtain ⟨q', c', hv'⟩ := OwnM.form hD.own
    subst hv'
    exact ⟨_, _, _, rfl, ⟨ps, hps, hD⟩, b1, hW.trans (b1.mono hW.size), (b1.block _ (Array.getElem?_eq_some_iff.1 hWR).1).trans hWR⟩
  have HF2 : Hid (∀ W, Below V2.heap.size V2 W → W.heap[V2.heap.size]? = some (.cells #[.slice none 0 0, .slice none 0 0] 24 (0, 0)) → Calls Try.prog 45 #[.slice q2 n2 c2] W fun e w' => ∃ q m c, e = .returned (.slice q m c) ∧ DL w' W.heap.size (.slice q m c) ss ∧ Below W.heap.size W w' ∧ Below V2.heap.size V2 w' ∧ w'.heap[V2.heap.size]? = some (.cells #[.slice none 0 0, .slice none 0 0] 24 (0, 0))) := fun W hW hWR => by
    refine (fresh_any _ ss W (h2.below (HB2.out.trans (hW.mono HB2.out.size))) (hlen k2).1 (hlen k2).2 (side_ne k2)).mono ?_
    rintro e w' ⟨v', ps, rfl, hps, hD, b1⟩
    obtain ⟨q', c', hv'⟩ := OwnM.form hD.own
    subst hv'
    exact ⟨_, _, _, rfl, ⟨ps, hps, hD⟩, b1, hW.trans (b1.mono hW.size), (b1.block _ (Array.getElem?_eq_some_iff.1 hWR).1).trans hWR⟩
  obtain ⟨V, hV⟩ : ∃ V, V = V2.alloc (.cells #[.slice none 0 0, .slice none 0 0] 24) := ⟨_, rfl⟩
  have HBV : Hid (Below V2.heap.size V2 V) := by rw [hV]; exact (Below.refl _ _).alloc (Nat.le_refl _) _
  have hR : V.heap[V2.heap.size]? = some (.cells #[.slice none 0 0, .slice none 0 0] 24 (0, 0)) := by rw [hV]; exact heap_alloc_new V2 _
  have v0 : V2.cell? ⟨w.heap.size, 0, none⟩ = some (.slice q1 n1 c1) := by rw [hV2]; simp [go_sem]
  have v1 : V2.cell? ⟨w.heap.size, 1, none⟩ = some (.slice q2 n2 c2) := by rw [hV2]; simp [go_sem]
  have hVs : V2.heap.size < V.heap.size := (Array.getElem?_eq_some_iff.1 hR).1
  have SO : Hid (∀ W, Below V2.heap.size V2 W → (Below V2.heap.size V2 W ∧ W.cell? ⟨w.heap.size, 0, none⟩ = some (.slice q1 n1 c1) ∧ W.cell? ⟨w.heap.size, 1, none⟩ = some (.slice q2 n2 c2))) := fun W hW => ⟨hW, keeps hW v0, keeps hW v1⟩
  clear h1 h2 k1 k2 hlen
  obtain ⟨P, hP⟩ : ∃ P, P = w.heap.size + 1 := ⟨_, rfl⟩
  have hPs : V2.heap.size = P := by rw [hs2, hP]
  rw [hPs] at HF1 HF2 HBV hR hVs SO
  have HP : Hid (V2.heap.size = P ∧ P = w.heap.size + 1) := ⟨hPs, hP⟩
  clear hs2 hPs v0 v1
  go_enter Try.func39, Try.ntmps39
  go_upto_region 1 with fail
  rw [← hV2, ← hV]
  simp only [← hP]
  clear hV2 hV hP
  obtain ⟨z0, z1, hfz⟩ := rowTwo hR
  have z2 := hfz 0
  have z3 := hfz 1
  obtain ⟨-, y0, y1⟩ := SO.out V HBV.out
  have hRd : V.drew.heap[P]? = some (.cells #[.slice none 0 0, .slice none 0 0] 24 (0, 0)) := ((Below.refl _ V).drew.block P hVs).trans hR
  go_region_with (first | (go_at_call 45; with_reducible refine (HF1.out _ ?_ ?_).mono ?_; (repeat' (first | with_reducible exact HBV.out | with_reducible assumption | with_reducible refine Below.drew ?_)); rintro x Wa ⟨qa, ma, ca, rfl, hDa, hba, hna, hRa⟩; obtain ⟨-, ka0, ka1⟩ := SO.out Wa hna) | (go_at_call 45; with_reducible refine (HF2.out _ ?_ ?_).mono ?_; (repeat' (first | with_reducible assumption | with_reducible refine Below.drew ?_)); rintro x Wb ⟨qb, mb, cb, rfl, hDb, hbb, hnb, hRb⟩; obtain ⟨pb0, pb1, pfb⟩ := rowTwo hRb; have pb2 := pfb 0; have pb3 := pfb 1))
  all_goals go_wp2_with fail
  all_goals
    have hg := grTwo Wb P (.slice qa ma ca) (.slice qb mb cb)
    have HX := setTwo hRb (.slice qa ma ca) (.slice qb mb cb)
    have hlt : P < V.drew.heap.size := (Array.getElem?_eq_some_iff.1 hRd).1
    have hPw := HP.out
    obtain ⟨pa, pb, ea, eb, g1⟩ := fr_two (base := w.heap.size) hDa hba.size hDb hbb hg hlt (by omega)
    have hBX : Below w.heap.size w ((Wb.setCell ⟨P, 0, none⟩ (.slice qa ma ca)).setCell ⟨P, 1, none⟩ (.slice qb mb cb)) := by
      have h1 : Below w.heap.size w Wb := HB2.out.trans (hnb.mono (by omega))
      exact h1.grown hg h1.size (fun k hk => by cases hk; omega)
    generalize (Wb.setCell ⟨P, 0, none⟩ (.slice qa ma ca)).setCell ⟨P, 1, none⟩ (.slice qb mb cb) = X at *
    obtain ⟨t0, t1, -⟩ := rowTwo HX
    exact bodyPost_ret (v := .agg #[.slice qa ma ca, .slice qb mb cb]) (by simp [results, Try.results39, go_sem, t0, t1]) rfl ⟨_, _, _, _, _, _, pa, pb, rfl, hBX, ea, eb, g1⟩

theorem set_right {α : Type} (X Y : List α) (n j : Nat) (u : α) (h : X.length = n) : (X ++ Y).set (n + j) u = X ++ Y.set j u := by
  subst h
  rw [List.set_append, if_neg (by omega), show X.length + j - X.length = j by omega]
/-- One rest of the call's own has become another one. -/
theorem own_five {w : World} {base g off n cap : Nat} {C D : List R} {r : R} (a b c d e : Int) (h : OwnM w base 26 5 (.slice (some ⟨g, off, none⟩) n cap) n (flat (C ++ r :: D))) :
    OwnM (((((w.setCell ⟨g, off + C.length * 5, none⟩ (.int .i64 a)).setCell ⟨g, off + C.length * 5 + 1, none⟩ (.int .i64 b)).setCell ⟨g, off + C.length * 5 + 2, none⟩ (.int .i64 c)).setCell ⟨g, off + C.length * 5 + 3, none⟩ (.int .i64 d)).setCell ⟨g, off + C.length * 5 + 4, none⟩ (.int .i64 e)) base 26 5 (.slice (some ⟨g, off, none⟩) n cap) n (flat (C ++ ⟨a, b, c, d, e⟩ :: D)) := by
  have h0 := OwnM.set h (C.length * 5) (.int .i64 a)
  have h1 := OwnM.set h0 (C.length * 5 + 1) (.int .i64 b)
  have h2 := OwnM.set h1 (C.length * 5 + 2) (.int .i64 c)
  have h3 := OwnM.set h2 (C.length * 5 + 3) (.int .i64 d)
  have h4 := OwnM.set h3 (C.length * 5 + 4) (.int .i64 e)
  have hl : (flat C).length = C.length * 5 := flat_len C
  have e0 : ((((((flat (C ++ r :: D)).set (C.length * 5) (.int .i64 a)).set (C.length * 5 + 1) (.int .i64 b)).set (C.length * 5 + 2) (.int .i64 c)).set (C.length * 5 + 3) (.int .i64 d)).set (C.length * 5 + 4) (.int .i64 e)) = flat (C ++ ⟨a, b, c, d, e⟩ :: D) := by
    rw [flat_append, flat_append]
    have s0 := set_right (flat C) (flat (r :: D)) _ 0 (.int .i64 a) hl
    rw [Nat.add_zero] at s0
    rw [s0, set_right _ _ _ 1 _ hl, set_right _ _ _ 2 _ hl, set_right _ _ _ 3 _ hl, set_right _ _ _ 4 _ hl]
    rfl
  rw [e0] at h4
  simp only [← Nat.add_assoc] at h4
  exact h4
theorem gr_at5 (w : World) (g o0 o1 o2 o3 o4 : Nat) (x0 x1 x2 x3 x4 : Value) : w.grownBy (((((w.setCell ⟨g, o0, none⟩ x0).setCell ⟨g, o1, none⟩ x1).setCell ⟨g, o2, none⟩ x2).setCell ⟨g, o3, none⟩ x3).setCell ⟨g, o4, none⟩ x4) (some g) :=
  gr_trans (gr_trans (gr_trans (gr_trans (gr_setCell _ _ _ _) (gr_setCell _ _ _ _)) (gr_setCell _ _ _ _)) (gr_setCell _ _ _ _)) (gr_setCell _ _ _ _)
/-- What one level becomes. -/
def upR (r' : R) (zs : List R) : List R := if idx r'.id zs < 0 then zs else zs.set (idx r'.id zs).toNat r'
def upP (r' : R) (p : RP) : RP := (p.1, upR r' p.2)
/-- What the loop of 'replace' keeps. -/
structure RepI (V : World) (F : Nat) (v1 v2 vC : Value) (PS : List RP) (m : Nat) (r' : R) (jj : Nat) (wr : World) : Prop where
  below : Below V.heap.size V wr
  row : wr.heap[F]? = some (.cells #[v1, v2] 24 (0, 0))
  cat : rlv.OwnQ wr F vC (PS.map (·.1))
  two : ∃ qa qb, Two wr V.heap.size F v1 v2 qa qb ∧ qa ++ qb = (PS.take jj).map (upP r') ++ PS.drop jj ∧ qa.length = m
theorem RepI.on {V : World} {F : Nat} {v1 v2 vC : Value} {PS : List RP} {m : Nat} {r' : R} {jj : Nat} {wr w' : World} (h : RepI V F v1 v2 vC PS m r' jj wr) (hB : Below wr.heap.size wr w') : RepI V F v1 v2 vC PS m r' jj w' := by
  obtain ⟨qa, qb, h1, h2, h3⟩ := h.two
  exact ⟨h.below.trans (hB.mono h.below.size), (hB.block F (Array.getElem?_eq_some_iff.1 h.row).1).trans h.row, OwnM.below h.cat hB, qa, qb, h1.below hB, h2, h3⟩
theorem RepI.pass {V : World} {F : Nat} {v1 v2 vC : Value} {PS : List RP} {m : Nat} {r' : R} {jj : Nat} {wr : World} (h : RepI V F v1 v2 vC PS m r' jj wr) (hj : jj < PS.length) (hi : idx r'.id PS[jj].2 < 0) : RepI V F v1 v2 vC PS m r' (jj + 1) wr := by
  obtain ⟨qa, qb, h1, h2, h3⟩ := h.two
  refine ⟨h.below, h.row, h.cat, qa, qb, h1, ?_, h3⟩
  rw [h2, List.take_succ_eq_append_getElem hj, List.map_append, List.drop_eq_getElem_cons hj, List.append_assoc]
  have : upP r' PS[jj] = PS[jj] := by unfold upP upR; rw [if_pos hi]
  simp [this]
/-- The level that stands next. -/
theorem RepI.level {V : World} {F : Nat} {v1 v2 vC : Value} {PS : List RP} {m : Nat} {r' : R} {jj : Nat} {wr : World} (h : RepI V F v1 v2 vC PS m r' jj wr) (hj : jj < PS.length) : OwnQ wr V.heap.size (sv PS[jj].1) PS[jj].2 := by
  obtain ⟨qa, qb, h1, h2, h3⟩ := h.two
  exact h1.each _ (by rw [h2, List.drop_eq_getElem_cons hj]; exact List.mem_append_right _ List.mem_cons_self)
theorem RepI.put {V : World} {F : Nat} {v1 v2 vC : Value} {PS : List RP} {m : Nat} {a b c d e : Int} {jj : Nat} {wr : World} (h : RepI V F v1 v2 vC PS m ⟨a, b, c, d, e⟩ jj wr) (hj : jj < PS.length) {p : Int} {g off n cap : Nat} {zs : List R} (hp : PS[jj] = (⟨p, some ⟨g, off, none⟩, n, cap⟩, zs)) {k : Nat} (hk : idx a zs = (k : Int)) :
    RepI V F v1 v2 vC PS m ⟨a, b, c, d, e⟩ (jj + 1) (((((wr.setCell ⟨g, off + k * 5, none⟩ (.int .i64 a)).setCell ⟨g, off + k * 5 + 1, none⟩ (.int .i64 b)).setCell ⟨g, off + k * 5 + 2, none⟩ (.int .i64 c)).setCell ⟨g, off + k * 5 + 3, none⟩ (.int .i64 d)).setCell ⟨g, off + k * 5 + 4, none⟩ (.int .i64 e)) := by
  have hO := h.level hj
  obtain ⟨qa, qb, h1, h2, h3⟩ := h.two
  have hkl : k < zs.length := by have := idx_lt a zs; omega
  have hgr := gr_at5 wr g (off + k * 5) (off + k * 5 + 1) (off + k * 5 + 2) (off + k * 5 + 3) (off + k * 5 + 4) (.int .i64 a) (.int .i64 b) (.int .i64 c) (.int .i64 d) (.int .i64 e)
  have e2 : qa ++ qb = (PS.take jj).map (upP ⟨a, b, c, d, e⟩) ++ PS[jj] :: PS.drop (jj + 1) := by rw [h2, List.drop_eq_getElem_cons hj]
  have hx : PS[jj] ∈ qa ++ qb := by rw [e2]; exact List.mem_append_right _ List.mem_cons_self
  rw [hp] at hO
  have hn : n = zs.length := by
    obtain ⟨q', c', e⟩ := OwnM.form hO
    have e' : Value.slice (some ⟨g, off, none⟩) n cap = .slice q' zs.length c' := e
    simp only [Value.slice.injEq] at e'
    exact e'.2.1
  subst hn
  have hbk : blkR (⟨p, some ⟨g, off, none⟩, zs.length, cap⟩ : rlv.RL) = some g := rfl
  have hlt := OwnM.lt hO g rfl
  have hF := (h1.far _ hx g (by rw [hp]; rfl)).2.2
  obtain ⟨C, D, eC, lC⟩ := cut_at hkl
  generalize zs[k] = rr at eC
  have hO2 : OwnM wr V.heap.size 26 5 (.slice (some ⟨g, off, none⟩) zs.length cap) zs.length (flat (C ++ rr :: D)) := by rw [← eC]; exact hO
  have hN := own_five a b c d e hO2
  rw [lC] at hN
  have hset : zs.set k ⟨a, b, c, d, e⟩ = C ++ ⟨a, b, c, d, e⟩ :: D := by
    rw [eC, ← lC]
    exact set_mid C rr _ D
  have hup : upP ⟨a, b, c, d, e⟩ PS[jj] = (PS[jj].1, C ++ ⟨a, b, c, d, e⟩ :: D) := by
    rw [hp]
    unfold upP upR
    simp only []
    rw [hk, if_neg (by omega), Int.toNat_natCast, hset]
  have hlen : (C ++ (⟨a, b, c, d, e⟩ : R) :: D).length = zs.length := by rw [← hset, List.length_set]
  obtain ⟨qa', qb', k1, k2, k3⟩ := h1.set (zs := C ++ ⟨a, b, c, d, e⟩ :: D) e2 (by rw [hp, hbk]; exact hgr) (by
    rw [hp]
    show OwnM _ _ _ _ _ _ _
    rw [hlen]
    exact hN)
  refine ⟨h.below.grown hgr h.below.size (fun z hz => by cases hz; exact hlt.1), ?_, ?_, qa', qb', k1, ?_, k3.trans h3⟩
  · rw [hgr.block F (Array.getElem?_eq_some_iff.1 h.row).1 (by simp; omega)]; exact h.row
  · exact kept_of h.cat hgr (fun z hz e => by have := (OwnM.lt h.cat z hz).1; simp at e; omega)
  · rw [k2, List.take_succ_eq_append_getElem hj, List.map_append, List.append_assoc]
    simp [hup]
end Go.Proofs.Ytjphhieloicdeaa.swp
