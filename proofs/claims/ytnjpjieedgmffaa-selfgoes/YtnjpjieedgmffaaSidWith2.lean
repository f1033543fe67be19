/- Contracts over this seat's translation: side.withLevel. Contracts over this seat's translation: side.withLevel, at every side. -/
import Derived.Test.YtnjpjieedgmffaaSidIns3
import Derived.Test.YtnjpjieedgmffaaSidPut
import Derived.Test.YtnjpjieedgmffaaSidDL
namespace Go.Proofs.Ytnjpjieedgmffaa.sid
open Go.RowKit Go.Proofs.Ytnjpjieedgmffaa.spn Go.Proofs.Ytnjpjieedgmffaa.que
open Go.Proofs.Ytnjpjieedgmffaa.tickP (priceB sideB betOk betR)

theorem put_app {s p : Int} {r : R} (a b : List L) (h : ∀ l ∈ a, leadB s l.price p = true) : putL s p r (a ++ b) = a ++ putL s p r b := by
  induction a with
  | nil => rfl
  | cons x t ih =>
    rw [List.cons_append, putL, if_pos (h x (by simp)), ih (fun l hl => h l (by simp [hl]))]; rfl
/-- Where a price comes to stand among levels. -/
theorem split_at (s p : Int) (ps : List RP) : ∃ a b, ps = a ++ b ∧ (∀ y ∈ a, leadB s y.1.price p = true) ∧ (b = [] ∨ ∃ x t, b = x :: t ∧ leadB s x.1.price p = false) := by
  induction ps with
  | nil => exact ⟨[], [], rfl, by simp, .inl rfl⟩
  | cons x t ih =>
    cases hl : leadB s x.1.price p
    · exact ⟨[], x :: t, rfl, by simp, .inr ⟨x, t, rfl, hl⟩⟩
    · obtain ⟨a, b, e, h1, h2⟩ := ih
      refine ⟨x :: a, b, by rw [e]; rfl, ?_, h2⟩
      intro y hy
      rcases List.mem_cons.1 hy with rfl | hy
      · exact hl
      · exact h1 y hy
theorem idx_skip {α : Type} (f : α → Bool) (x : α) (a b : List α) (h : ∀ y ∈ a, f y = false) : ∀ i, Lib.idxByFrom (fun _ y => f y) x (a ++ b) i = Lib.idxByFrom (fun _ y => f y) x b (i + a.length) := by
  induction a with
  | nil => intro i; rfl
  | cons y t ih =>
    intro i
    show (if f y = true then (i : Int) else Lib.idxByFrom (fun _ y => f y) x (t ++ b) (i + 1)) = _
    rw [if_neg (by rw [h y (by simp)]; simp), ih (fun z hz => h z (by simp [hz])), List.length_cons, show i + 1 + t.length = i + (t.length + 1) by omega]
theorem idx_all {α : Type} (f : α → Bool) (x : α) (a : List α) (h : ∀ y ∈ a, f y = false) : Lib.idxBy (fun _ y => f y) a x = -1 := by
  have := idx_skip f x a [] h 0
  rw [List.append_nil] at this
  unfold Lib.idxBy
  rw [this]; rfl
theorem idx_first {α : Type} (f : α → Bool) (x : α) (a : List α) (y : α) (b : List α) (h : ∀ z ∈ a, f z = false) (hy : f y = true) : Lib.idxBy (fun _ y => f y) (a ++ y :: b) x = a.length := by
  have := idx_skip f x a (y :: b) h 0
  unfold Lib.idxBy
  rw [this]
  show (if f y = true then ((0 + a.length : Nat) : Int) else _) = _
  rw [if_pos hy, Nat.zero_add]

theorem with_pred (s p : Int) (B1 B2 : Nat) (w : World) (h1 : B1 < w.heap.size) (h2 : B2 < w.heap.size) (c1 : w.cell? ⟨B1, 0, none⟩ = some (.int .i64 s)) (c2 : w.cell? ⟨B2, 0, none⟩ = some (.int .i64 p)) :
    PredBelow Try.prog 81 #[.pointer (some ⟨B1, 0, none⟩), .pointer (some ⟨B2, 0, none⟩)] (fun x => .agg (rlv.rV x).toArray) (fun x => !leadB s x.price p) w := by
  intro W x hb
  obtain ⟨pp, q, n, c⟩ := x
  show Calls Try.prog 81 #[.agg #[.int .i64 pp, .slice q n c], .pointer (some ⟨B1, 0, none⟩), .pointer (some ⟨B2, 0, none⟩)] W _
  have d1 := keeps hb c1
  have d2 := keeps hb c2
  have hz1 : B1 < W.heap.size := Nat.lt_of_lt_of_le h1 hb.size
  have hz2 : B2 < W.heap.size := Nat.lt_of_lt_of_le h2 hb.size
  have hb2 : Below w.heap.size w (W.alloc (.cells #[.int .i64 pp, .slice q n c] 31)) := hb.alloc hb.size _
  have hcon := leads_V w s pp p _ hb2
  simp only []
  generalize leadB s pp p = ld at *
  go_enter Try.func81, Try.ntmps81
  go_wp2_with fail
  refine hcon.mono ?_
  rintro e w1 ⟨rfl, h3⟩
  clear hcon
  go_wp2_with fail
  go_ret
  exact ⟨rfl, h3⟩

theorem index_nil (cl : Value) (w : World) :
    Calls Try.prog 80 #[.slice none 0 0, cl] w fun e w' => e = .returned (.int .i64 (-1)) ∧ Below w.heap.size w w' := by
  go_enter Try.func80, Try.ntmps80
  go_wp2
  go_loopg [5, 8] 0 (fun _ _ s8 wr => s8 = .int .i64 0 ∧ wr = w)
  case atStart => exact ⟨rfl, rfl⟩
  case round =>
    obtain ⟨rfl, rfl⟩ := hrel
    go_wp2
    go_ret
    exact ⟨rfl, Below.refl _ _⟩
theorem index_any (s p : Int) (B1 B2 : Nat) (v : Value) (zs : List rlv.RL) (w : World) (h : rlv.SL w v zs) (h1 : B1 < w.heap.size) (h2 : B2 < w.heap.size) (c1 : w.cell? ⟨B1, 0, none⟩ = some (.int .i64 s)) (c2 : w.cell? ⟨B2, 0, none⟩ = some (.int .i64 p)) :
    Calls Try.prog 80 #[v, .func (.func 81) #[] #[.pointer (some ⟨B1, 0, none⟩), .pointer (some ⟨B2, 0, none⟩)]] w fun e w' => e = .returned (.int .i64 (Lib.idxBy (fun _ y => !leadB s y.price p) zs default)) ∧ Below w.heap.size w w' := by
  rcases h with ⟨rfl, rfl⟩ | ⟨b, o, c, rfl, hc, hm, hb, hl⟩
  · exact index_nil _ w
  · have eg : ∀ args w, (callFunc 81 args).run Try.prog w = .ok (.enter 81 args) w := enters_of Try.func81 (by kernel_rfl) rfl
    have hcon := AnyQ.slices_IndexFunc Try.lq6l 2 Try.isAgg31 Try.sizeOf31 rlv.rV (fun x => rfl) (fun x => !leadB s x.price p) 81 #[.pointer (some ⟨B1, 0, none⟩), .pointer (some ⟨B2, 0, none⟩)] eg b o zs.length c zs
      w (with_pred s p B1 B2 w h1 h2 c1 c2) (Nat.le_refl _) (by omega) hb hl
    change Calls Try.prog 80 _ _ _ at hcon
    rw [List.take_length] at hcon
    exact hcon
end Go.Proofs.Ytnjpjieedgmffaa.sid
namespace Go.Proofs.Ytnjpjieedgmffaa.sid
open Go.RowKit Go.Proofs.Ytnjpjieedgmffaa.spn Go.Proofs.Ytnjpjieedgmffaa.que
open Go.Proofs.Ytnjpjieedgmffaa.tickP (priceB sideB betOk betR)

theorem ap_none (r : rlv.RL) (h : blkR r = none) (zs : List R) (b : RP) : AP (r, zs) b ∧ AP b (r, zs) :=
  ⟨fun x hx => (by rw [show (r, zs).1 = r from rfl, h] at hx; cases hx), fun x _ e => (by rw [show (r, zs).1 = r from rfl, h] at e; cases e)⟩
/-- One level more, without rests. -/
theorem DeepT.insert {w w' : World} {base : Nat} {v v' : Value} {a b : List RP} {p : Int} (h : Deep w base v (a ++ b)) (ho : rlv.OwnQ w' base v' (a.map (·.1) ++ ⟨p, none, 0, 0⟩ :: b.map (·.1)))
    (hg : w.grownBy w' v.ownBlock) (hv : v'.ownBlock = v.ownBlock ∨ ∃ k, v'.ownBlock = some k ∧ w.heap.size ≤ k) : Deep w' base v' (a ++ (⟨p, none, 0, 0⟩, []) :: b) := by
  have hk : ∀ y ∈ a ++ b, OwnQ w' base (sv y.1) y.2 ∧ ∀ x, blkR y.1 = some x → v'.ownBlock ≠ some x := fun y hy => by
    refine ⟨kept_of (h.each y hy) hg (fun x hx => h.far y hy x hx), fun x hx => ?_⟩
    rcases hv with e | ⟨k, e, hk⟩
    · rw [e]; exact h.far y hy x hx
    · rw [e]; intro e2
      have e3 : k = x := by simpa using e2
      have := (OwnM.lt (h.each y hy) x hx).2
      omega
  refine ⟨?_, ?_, ?_, ?_⟩
  · rw [List.append_nil, List.map_append, List.map_cons]; exact ho
  · intro y hy
    rcases List.mem_append.1 hy with hy | hy
    · exact (hk y (by simp [hy])).1
    · rcases List.mem_cons.1 hy with rfl | hy
      · exact ⟨rfl, .inl ⟨rfl, rfl⟩⟩
      · exact (hk y (by simp [hy])).1
  · obtain ⟨h1, h2, h3⟩ := List.pairwise_append.1 h.apart
    refine List.pairwise_append.2 ⟨h1, List.pairwise_cons.2 ⟨fun y _ => (ap_none _ rfl _ y).1, h2⟩, fun y hy z hz => ?_⟩
    rcases List.mem_cons.1 hz with rfl | hz
    · exact (ap_none _ rfl _ y).2
    · exact h3 y hy z hz
  · intro y hy
    rcases List.mem_append.1 hy with hy | hy
    · exact (hk y (by simp [hy])).2
    · rcases List.mem_cons.1 hy with rfl | hy
      · intro x hx; cases hx
      · exact (hk y (by simp [hy])).2

theorem insert_deep (w2 : World) (base : Nat) (v : Value) (a b : List RP) (p : Int) (nq : Nat) (hD : Deep w2 base v (a ++ b)) (hbase : base ≤ w2.heap.size) (hn : (a ++ b).length ≤ 1000) :
    Calls Try.prog 82 #[v, .int .i64 (a.length : Nat), .slice (some ⟨w2.heap.size, 0, none⟩) 1 1] ((w2.drewN nq).alloc (.cells #[.int .i64 p, .slice none 0 0] 31)) fun e w' =>
      ∃ v', e = .returned v' ∧ Deep w' base v' (a ++ (⟨p, none, 0, 0⟩, []) :: b) ∧ Below base w2 w' := by
  have hsz : (w2.drewN nq).heap.size = w2.heap.size := rfl
  have hBV : Below w2.heap.size w2 ((w2.drewN nq).alloc (.cells #[.int .i64 p, .slice none 0 0] 31)) := (belowN (Below.refl _ _) nq).alloc (Nat.le_refl _) _
  have hvc := heap_alloc_new (w2.drewN nq) (.cells #[.int .i64 p, .slice none 0 0] 31)
  rw [hsz] at hvc
  have hDV := hD.below hBV
  have hB1 : Below base w2 ((w2.drewN nq).alloc (.cells #[.int .i64 p, .slice none 0 0] 31)) := hBV.mono hbase
  generalize (w2.drewN nq).alloc (.cells #[.int .i64 p, .slice none 0 0] 31) = V at *
  have ho : rlv.OwnQ V base v (a.map (·.1) ++ b.map (·.1)) := by have := hDV.own; rwa [List.append_nil, List.map_append] at this
  have h := insert_any V base v (a.map (·.1) ++ b.map (·.1)) a.length p w2.heap.size 1 ho (Nat.le_trans hbase hBV.size) (by simp) (by simp at hn ⊢; omega) hvc (fun e => by have := (OwnM.lt hD.own _ e).2; omega)
  refine h.mono ?_
  rintro e w' ⟨v', rfl, ho', hg, hv⟩
  rw [List.take_left' (by simp), List.drop_left' (by simp)] at ho'
  exact ⟨v', rfl, hDV.insert ho' hg hv, hB1.grown hg (Nat.le_trans hbase hBV.size) (fun k hk => (OwnM.lt hDV.own k hk).1)⟩
/-- What withLevel answers. -/
def WithPost (s p : Int) (ls : List L) (w : World) (e : Ending) (w' : World) : Prop :=
  ∃ v' a x b, e = .returned (.tuple #[v', .int .i64 (a.length : Nat)]) ∧ Deep w' w.heap.size v' (a ++ x :: b) ∧ x.1.price = p ∧ (∀ r, putL s p r ls = a.map toL ++ ⟨p, x.2 ++ [r]⟩ :: b.map toL) ∧ Below w.heap.size w w'

theorem lead_map {s p : Int} {a : List RP} (h : ∀ y ∈ a, leadB s y.1.price p = true) : ∀ l ∈ a.map toL, leadB s l.price p = true := by
  intro l hl
  obtain ⟨y, hy, rfl⟩ := List.mem_map.1 hl
  exact h y hy
theorem lead_raw {s p : Int} {a : List RP} (h : ∀ y ∈ a, leadB s y.1.price p = true) : ∀ l ∈ a.map (·.1), (!leadB s l.price p) = false := by
  intro l hl
  obtain ⟨y, hy, rfl⟩ := List.mem_map.1 hl
  simp [h y hy]

set_option maxRecDepth 100000 in
set_option maxHeartbeats 2000000 in
theorem withLevel_any (s p : Int) (v : Value) (ls : List L) (w : World) (h : LS w v ls) (hn : ls.length ≤ 1000) (hr : ∀ l ∈ ls, l.rests.length ≤ 1000) (hne : ∀ l ∈ ls, l.rests ≠ []) :
    Calls Try.prog 65 #[.int .i64 s, v, .int .i64 p] w fun e w' => WithPost s p ls w e w' := by
  obtain ⟨W0, hW0⟩ : ∃ W0, W0 = (w.alloc (.cells #[.int .i64 s] 3)).alloc (.cells #[.int .i64 p] 3) := ⟨_, rfl⟩
  have hB0 : Below w.heap.size w W0 := by rw [hW0]; exact ((Below.refl _ _).alloc (Nat.le_refl _) _).alloc (by simp) _
  have hs0 : W0.heap.size = w.heap.size + 2 := by rw [hW0]; simp
  have c1 : W0.cell? ⟨w.heap.size, 0, none⟩ = some (.int .i64 s) := by rw [hW0]; simp [go_sem]
  have c2 : W0.cell? ⟨w.heap.size + 1, 0, none⟩ = some (.int .i64 p) := by rw [hW0]; simp [go_sem]
  have hfresh := fresh_any v ls W0 (h.below hB0) hn hr hne
  obtain ⟨vq, vm, vc, rfl⟩ := ls_form h
  have HP : Hid (∀ W v' a x b, Deep W w.heap.size v' (a ++ x :: b) → x.1.price = p → (∀ r, putL s p r ls = a.map toL ++ ⟨p, x.2 ++ [r]⟩ :: b.map toL) → Below w.heap.size w W → WithPost s p ls w (.returned (.tuple #[v', .int .i64 (a.length : Nat)])) W) := fun W v' a x b h1 h2 h3 h4 => ⟨v', a, x, b, rfl, h1, h2, h3, h4⟩
  have HN : Hid (ls.length ≤ 1000) := hn
  generalize WithPost s p ls w = POST at *
  clear h hn hr hne
  go_enter Try.func65, Try.ntmps65
  go_wp2_with fail
  rw [← hW0]
  refine hfresh.mono ?_
  rintro e w1 ⟨v1, ps, rfl, hps, hD0, hB1⟩
  have HW1 : Hid (Below w.heap.size w w1) := hB0.trans (hB1.mono hB0.size)
  have HD : Hid (Deep w1 w.heap.size v1 ps) := hD0.mono hB0.size
  have hsz1 : w.heap.size + 2 ≤ w1.heap.size := by have := hB1.size; omega
  have d1 := keeps hB1 c1
  have d2 := keeps hB1 c2
  have hlen : ps.length ≤ 1000 := by have := HN.out; rw [← hps, List.length_map] at this; exact this
  have HPS : Hid (ps.map toL = ls) := hps
  have HIX := index_any s p w.heap.size (w.heap.size + 1) v1 (ps.map (·.1)) w1 HD.out.loose.1 (by omega) (by omega) d1 d2
  obtain ⟨a, b, hab, ha, hb⟩ := split_at s p ps
  obtain ⟨q1, cc1, hv1⟩ := OwnM.form HD.out.own
  rw [List.append_nil, List.length_map] at hv1
  clear hfresh hB0 hs0 c1 c2 hW0 hD0 hB1 hps
  rcases hb with rfl | ⟨x, t, rfl, hx⟩
  · -- behind all
    rw [idx_all _ _ _ (by rw [hab, List.append_nil]; exact lead_raw ha)] at HIX
    rw [List.append_nil] at hab
    subst hab
    have HPUT : Hid (∀ r, putL s p r ls = ps.map toL ++ ⟨p, [] ++ [r]⟩ :: [].map toL) := fun r => by
      rw [← HPS.out, ← List.append_nil (ps.map toL), put_app _ _ (lead_map ha), List.append_nil]; rfl
    clear ha
    subst hv1
    generalize hnn : ps.length = n at *
    have HNN : Hid (ps.length = n) := hnn
    clear hnn
    go_wp2_with fail
    refine HIX.mono ?_
    rintro e w2 ⟨rfl, hB2⟩
    have HW2 : Hid (Below w.heap.size w w2) := HW1.out.trans (hB2.mono HW1.out.size)
    have HD2 : Hid (Deep w2 w.heap.size (.slice q1 n cc1) ps) := HD.out.below hB2
    have e2 := keeps hB2 d2
    have hsz2 : w.heap.size + 2 ≤ w2.heap.size := Nat.le_trans hsz1 hB2.size
    clear HIX hB2 d1 d2
    go_upto_region 5 with fail
    go_quiet (fail)
    go_wp2_with fail
    have hin := insert_deep w2 w.heap.size (.slice q1 n cc1) ps [] p nq (by rw [List.append_nil]; exact HD2.out) HW2.out.size (by rw [List.append_nil, HNN.out]; exact hlen)
    rw [HNN.out] at hin
    refine hin.mono ?_
    rintro e w3 ⟨v3, rfl, hD3, hB3⟩
    have HX := HP.out w3 v3 ps (⟨p, none, 0, 0⟩, []) [] hD3 rfl HPUT.out (HW2.out.trans hB3)
    rw [HNN.out] at HX
    clear hin hD3 hB3
    go_wp2_with fail
    exact HX
  · rw [hab, List.map_append, List.map_cons, idx_first _ _ _ _ _ (lead_raw ha) (by simp [hx]), List.length_map] at HIX
    have HPUT : Hid (∀ r, putL s p r ls = a.map toL ++ (if x.1.price = p then ⟨p, x.2 ++ [r]⟩ :: t.map toL else ⟨p, [r]⟩ :: toL x :: t.map toL)) := fun r => by
      rw [← HPS.out, hab, List.map_append, put_app _ _ (lead_map ha), List.map_cons, putL, if_neg (by rw [toL_price, hx]; simp)]
      rfl
    have HAB : Hid (ps = a ++ x :: t) := hab
    rcases HD.out.own.2 with ⟨e, hz⟩ | ⟨g, off, cap, cur, e, -, -, hcap, hcm, -, -⟩
    · rw [List.append_nil, List.length_map, hab] at hz; simp at hz
    · rw [List.append_nil, List.length_map] at e hcap
      subst e
      have hcap2 : cap ≤ 9223372036854775807 := by simpa [maxLen] using hcm
      have ho := HD.out.own
      rw [List.append_nil, hab, List.map_append, List.map_cons] at ho
      obtain ⟨-, c0, -, -, -, hgs⟩ := ownr_at ho
      rw [List.length_map] at c0
      have hkn : a.length < ps.length := by rw [hab]; simp
      clear ho ha hx hab hcm hv1
      obtain ⟨⟨xp, xq, xn, xc⟩, zs⟩ := x
      simp only [] at c0
      generalize hnn : ps.length = n at *
      have HNN : Hid (ps.length = n) := hnn
      generalize hkk : a.length = k at *
      have HKK : Hid (a.length = k) := hkk
      clear hnn hkk
      go_wp2_with fail
      refine HIX.mono ?_
      rintro e w2 ⟨rfl, hB2⟩
      have HW2 : Hid (Below w.heap.size w w2) := HW1.out.trans (hB2.mono HW1.out.size)
      have HD2 : Hid (Deep w2 w.heap.size (.slice (some ⟨g, off, none⟩) n cap) (a ++ (⟨xp, xq, xn, xc⟩, zs) :: t)) := by have := HD.out.below hB2; rwa [HAB.out] at this
      have e2 := keeps hB2 d2
      have e0 := keeps hB2 c0
      have hsz2 : w.heap.size + 2 ≤ w2.heap.size := Nat.le_trans hsz1 hB2.size
      have hgs2 : g < w2.heap.size := Nat.lt_of_lt_of_le hgs hB2.size
      clear HIX hB2 d1 d2 c0
      have hk0 : ¬ ((k : Int) < 0) := by omega
      have hk1 : ¬ ((k : Int) = (n : Int)) := by omega
      have hk2 : ¬ (k = n) := by omega
      have hk3 : (k : Int) < (n : Int) := by omega
      have hk4 : decide (k = n) = false := by simp [hk2]
      have hk5 : ((k : Int) == (n : Int)) = false := by simp; omega
      have hk6 : (0 : Int) ≤ (k : Int) := by omega
      by_cases hxp : xp = p
      · subst hxp
        have HPUT2 : Hid (∀ r, putL s xp r ls = a.map toL ++ ⟨xp, zs ++ [r]⟩ :: t.map toL) := fun r => by rw [HPUT.out r, if_pos rfl]
        clear HPUT
        have HX := fun nq => HP.out (w2.drewN nq) _ a (⟨xp, xq, xn, xc⟩, zs) t (HD2.out.below (belowN (Below.refl _ _) nq)) rfl HPUT2.out (belowN HW2.out nq)
        rw [HKK.out] at HX
        have HXX : Hid (∀ nq, POST (.returned (.tuple #[.slice (some ⟨g, off, none⟩) n cap, .int .i64 (k : Int)])) (w2.drewN nq)) := HX
        clear HX
        go_upto_region 5 with fail
        go_quiet (fail)
        go_wp2_with fail
        exact HXX.out _
      · have HPUT2 : Hid (∀ r, putL s p r ls = a.map toL ++ ⟨p, [] ++ [r]⟩ :: ((⟨xp, xq, xn, xc⟩, zs) :: t).map toL) := fun r => by rw [HPUT.out r, if_neg hxp]; rfl
        clear HPUT
        have hxp1 : (xp == p) = false := by simpa using hxp
        have hxp2 : decide (xp = p) = false := by simpa using hxp
        go_upto_region 5 with fail
        go_quiet (fail)
        go_wp2_with fail
        have hin := insert_deep w2 w.heap.size (.slice (some ⟨g, off, none⟩) n cap) a ((⟨xp, xq, xn, xc⟩, zs) :: t) p nq HD2.out HW2.out.size (by rw [← HAB.out, HNN.out]; exact hlen)
        rw [HKK.out] at hin
        refine hin.mono ?_
        rintro e w3 ⟨v3, rfl, hD3, hB3⟩
        have HX := HP.out w3 v3 a (⟨p, none, 0, 0⟩, []) ((⟨xp, xq, xn, xc⟩, zs) :: t) hD3 rfl HPUT2.out (HW2.out.trans hB3)
        rw [HKK.out] at HX
        clear hin hD3 hB3
        go_wp2_with fail
        exact HX
end Go.Proofs.Ytnjpjieedgmffaa.sid
