/- What SelfNever needs: nobody trades with oneself; with nothing of one's own all modes are the same. -/
import Derived.Test.YtnjpjieedgmffaaSelDo
import Derived.Test.YtnjpjieedgmffaaMeeOwn
namespace Go.Proofs.Ytnjpjieedgmffaa.slf
open Go.RowKit Go.Proofs.Ytnjpjieedgmffaa.spn Go.Proofs.Ytnjpjieedgmffaa.que Go.Proofs.Ytnjpjieedgmffaa.sid Go.Proofs.Ytnjpjieedgmffaa.bok Go.Proofs.Ytnjpjieedgmffaa.mee Go.Proofs.Ytnjpjieedgmffaa.kin
open Go.Proofs.Ytnjpjieedgmffaa.ord (O oV mB mE chk)

theorem fine_never {m : Int} {o : O} {ls : List L} {k : Int} {v : V} (h : Fine m o ls k v) : ∀ x ∈ v.ts, ¬ x.frm = x.into := by
  induction h with
  | done => intro x hx; cases hx
  | stop => intro x hx; cases hx
  | taker => intro x hx; cases hx
  | maker _ _ _ _ _ ih => exact ih
  | both => intro x hx; cases hx
  | fill _ _ hw _ ih =>
    intro x hx
    rcases List.mem_cons.1 hx with rfl | hx
    · unfold trd
      split
      · exact hw
      · exact fun e => hw e.symm
    · exact ih x hx
theorem tk1_who {k : Int} {r : R} {t : List R} : ∀ x ∈ tk1 k r t, x.who = r.who ∨ x ∈ t := by
  intro x hx
  unfold tk1 at hx
  split at hx
  · rcases List.mem_cons.1 hx with rfl | hx
    · exact .inl rfl
    · exact .inr hx
  · split at hx
    · exact .inr hx
    · rcases List.mem_append.1 hx with hx | hx
      · exact .inr hx
      · simp at hx; subst hx; exact .inl rfl
theorem step_allR {p : Int} {z : List R} {t : List L} : allR (stepL p z t) = z ++ allR t := by
  unfold stepL
  by_cases e : z = []
  · rw [if_pos e, e]; rfl
  · rw [if_neg e, allR_cons]
theorem fine_none {m : Int} {o : O} {ls : List L} {k : Int} {v : V} (h : Fine m o ls k v) : (∀ l ∈ ls, lchk l = 0) → (∀ r ∈ allR ls, ¬ r.who = o.who) → v = ⟨(tkl o ls k).1, (tkl o ls k).2.1, (tkl o ls k).2.2, false, []⟩ := by
  induction h with
  | done h => intro _ _; rw [tkl_zero h]
  | stop h =>
    rename_i ls k
    intro _ _
    cases ls with
    | nil => rfl
    | cons l t => rw [tkl_stop (h l t rfl)]
  | taker _ _ hw => intro _ hn; exact absurd hw (hn _ (by rw [allR_cons]; simp))
  | maker _ _ hw => intro _ hn; exact absurd hw (hn _ (by rw [allR_cons]; simp))
  | both _ _ hw => intro _ hn; exact absurd hw (hn _ (by rw [allR_cons]; simp))
  | fill h0 hb hw _ ih =>
    intro hl hn
    have hq := (lchk_zero (hl _ (List.mem_cons_self ..))).2.2
    have e := ih (step_good h0 hl) (fun r hr => by
      rw [step_allR] at hr
      rcases List.mem_append.1 hr with hr | hr
      · rcases tk1_who r hr with h | h
        · rw [h]; exact hw
        · exact hn r (by rw [allR_cons]; simp [h])
      · exact hn r (by rw [allR_cons]; simp [hr]))
    rw [e, tkl_fill h0 hb hq]

def oneL : List L := [⟨100, [⟨1, 2, 5, 0, 0⟩]⟩]
def oneO : O := ⟨2, 2, 1, 3, 101, 7, 0, 0⟩
theorem one_come : comeE [] oneL oneO = 0 := by decide
theorem one_fine : Fine 2 oneO oneL 7 ⟨[], [], 7, false, [1]⟩ := Fine.maker (p := 100) (r := ⟨1, 2, 5, 0, 0⟩) (rs := []) (t := []) (v := ⟨[], [], 7, false, []⟩) (by decide) (by decide) rfl rfl (Fine.stop (fun l t e => by cases e))
theorem one_sE : sE [] oneL oneO ⟨[], [], 7, false, [1]⟩ = 0 := by decide
theorem one_lay (w : World) : LS ((w.alloc (.cells #[.int .i64 1, .int .i64 2, .int .i64 5, .int .i64 0, .int .i64 0] 28)).alloc (.cells #[.int .i64 100, .slice (some ⟨w.heap.size, 0, none⟩) 1 1] 31)) (.slice (some ⟨w.heap.size + 1, 0, none⟩) 1 1) oneL := by
  obtain ⟨w1, h1⟩ : ∃ w1, w1 = w.alloc (.cells #[.int .i64 1, .int .i64 2, .int .i64 5, .int .i64 0, .int .i64 0] 28) := ⟨_, rfl⟩
  have hs1 : w1.heap.size = w.heap.size + 1 := by rw [h1]; simp
  have hr1 := heap_alloc_new w (.cells #[.int .i64 1, .int .i64 2, .int .i64 5, .int .i64 0, .int .i64 0] 28)
  rw [← h1] at hr1 ⊢
  obtain ⟨w2, h2⟩ : ∃ w2, w2 = w1.alloc (.cells #[.int .i64 100, .slice (some ⟨w.heap.size, 0, none⟩) 1 1] 31) := ⟨_, rfl⟩
  have hr2 := heap_alloc_new w1 (.cells #[.int .i64 100, .slice (some ⟨w.heap.size, 0, none⟩) 1 1] 31)
  have hB2 : Below w1.heap.size w1 w2 := by rw [h2]; exact (Below.refl _ _).alloc (Nat.le_refl _) _
  rw [← h2] at hr2 ⊢
  have hr1' := (hB2.block w.heap.size (by omega)).trans hr1
  rw [hs1] at hr2
  have hQ : OwnQ w2 0 (.slice (some ⟨w.heap.size, 0, none⟩) 1 1) [⟨1, 2, 5, 0, 0⟩] := ⟨rfl, .inr ⟨w.heap.size, 0, 1, _, rfl, Nat.zero_le _, hr1', Nat.le_refl _, by unfold maxLen; omega, by simp, rfl⟩⟩
  have hLv : rlv.OwnQ w2 0 (.slice (some ⟨w.heap.size + 1, 0, none⟩) 1 1) [⟨100, some ⟨w.heap.size, 0, none⟩, 1, 1⟩] := ⟨rfl, .inr ⟨w.heap.size + 1, 0, 1, _, rfl, Nat.zero_le _, hr2, Nat.le_refl _, by unfold maxLen; omega, by simp, rfl⟩⟩
  have h : LS w2 (.slice (some ⟨w.heap.size + 1, 0, none⟩) 1 1) (([(⟨100, some ⟨w.heap.size, 0, none⟩, 1, 1⟩, [⟨1, 2, 5, 0, 0⟩])] : List RP).map toL) :=
    Loose.ls ⟨rlv.OwnQ.sl hLv, fun p hp => by simp only [List.mem_singleton] at hp; subst hp; exact .inl (OwnQ.sl hQ)⟩
  exact h
theorem one_do (xq : Option Addr) (xc : Nat) (w : World) (hL : LS w (.slice xq 1 xc) oneL) :
    Calls Try.prog 5 #[.agg #[.slice none 0 0, .slice xq 1 xc], .agg #[.int .i64 2, .int .i64 2, .int .i64 1, .int .i64 3, .int .i64 101, .int .i64 7, .int .i64 0, .int .i64 0], .int .i64 2] w fun e w' => ∃ u1 u2 n1 d1 d2 tq tc g off ic, e = .returned (.tuple #[.agg #[.slice u1 n1 d1, .slice u2 0 d2], .slice tq 0 tc, .int .i64 7, .slice (some ⟨g, off, none⟩) 1 ic, .nilIface]) ∧ w'.cell? ⟨g, off, none⟩ = some (.int .i64 1) ∧ Below w.heap.size w w' := by
  refine (sdo_mode 2 (by omega) none xq 0 1 0 xc [] oneL 2 2 1 3 101 7 0 0 w (ls_nil w) hL).mono ?_
  rintro e w' ⟨-, i2, hb⟩
  obtain ⟨q1, q2, n1, n2, c1, c2, tv, iv, rfl, D1, D2, OT, OI⟩ := (i2 one_come _ one_fine).1 one_sE
  obtain ⟨tq, tc, rfl⟩ := OwnM.form OT
  obtain ⟨iq, ic, rfl⟩ := OwnM.form OI
  have hn2 : n2 = 0 := ls_len D2.ls
  subst hn2
  rcases OI.2 with ⟨-, h⟩ | ⟨g, off, cap, cur, he, -⟩
  · simp at h
  · have hcell := own_cell (ad := ⟨g, off, none⟩) (c := cap) (by rw [← he]; exact OI) 0 (.int .i64 1) rfl
    simp only [Value.slice.injEq] at he
    obtain ⟨rfl, -, rfl⟩ := he
    exact ⟨q1, q2, n1, c1, c2, tq, tc, g, off, ic, rfl, hcell, hb⟩

/-- 'Do' at every mode, with what comes of it under names. -/
theorem nv_any (m : Int) (bs ss : List L) (a b c d p q s t : Int) : ∃ (nE : Int) (ts : List T) (G : Int) (BB SS : List L) (ids : List Int),
    (nE = 0 → comeE bs ss ⟨a, b, c, d, p, q, s, t⟩ = 0 ∧ ts.length ≤ 400 ∧ (¬ m = 0 → ∀ x ∈ ts, ¬ x.frm = x.into) ∧ (m = 0 → ids = []) ∧ ((∀ r ∈ allR (otherL bs ss ⟨a, b, c, d, p, q, s, t⟩), ¬ r.who = b) → kdoE bs ss ⟨a, b, c, d, p, q, s, t⟩ = 0 ∧ BB = kdoB bs ss ⟨a, b, c, d, p, q, s, t⟩ ∧ SS = kdoS bs ss ⟨a, b, c, d, p, q, s, t⟩ ∧ ts = (metR bs ss ⟨a, b, c, d, p, q, s, t⟩).2.1 ∧ G = kdoG bs ss ⟨a, b, c, d, p, q, s, t⟩ ∧ ids = [])) ∧
    ∀ (q1 q2 : Option Addr) (n1 n2 c1 c2 : Nat) (w : World), LS w (.slice q1 n1 c1) bs → LS w (.slice q2 n2 c2) ss →
      Calls Try.prog 5 #[.agg #[.slice q1 n1 c1, .slice q2 n2 c2], .agg #[.int .i64 a, .int .i64 b, .int .i64 c, .int .i64 d, .int .i64 p, .int .i64 q, .int .i64 s, .int .i64 t], .int .i64 m] w fun e w' =>
        (¬ nE = 0 → e = .returned (.tuple #[.agg #[.slice none 0 0, .slice none 0 0], .slice none 0 0, .int .i64 0, .slice none 0 0, .iface 64 (.int .i64 nE)])) ∧
        (nE = 0 → ∃ u1 u2 m1 m2 d1 d2 tq tc iq ic, e = .returned (.tuple #[.agg #[.slice u1 m1 d1, .slice u2 m2 d2], .slice tq ts.length tc, .int .i64 G, .slice iq ids.length ic, .nilIface]) ∧ LS w' (.slice u1 m1 d1) BB ∧ LS w' (.slice u2 m2 d2) SS ∧ OwnT w' w.heap.size (.slice tq ts.length tc) ts) ∧ Below w.heap.size w w' := by
  by_cases hm : 0 ≤ m ∧ m ≤ 3
  rotate_left
  · refine ⟨1, [], 0, [], [], [], fun h => by omega, fun q1 q2 n1 n2 c1 c2 w h1 h2 => ?_⟩
    refine (sdo_bad m hm q1 q2 n1 n2 c1 c2 a b c d p q s t w).mono ?_
    rintro e w' ⟨rfl, hb⟩
    exact ⟨fun _ => rfl, fun h => by omega, hb⟩
  by_cases h0 : m = 0
  · subst h0
    refine ⟨kdoE bs ss ⟨a, b, c, d, p, q, s, t⟩, (metR bs ss ⟨a, b, c, d, p, q, s, t⟩).2.1, kdoG bs ss ⟨a, b, c, d, p, q, s, t⟩, kdoB bs ss ⟨a, b, c, d, p, q, s, t⟩, kdoS bs ss ⟨a, b, c, d, p, q, s, t⟩, [], fun h => ?_, fun q1 q2 n1 n2 c1 c2 w h1 h2 => ?_⟩
    · have hd := doE_zero (kdo_zero h).1
      exact ⟨hd.1, hd.2, fun h0 => absurd rfl h0, fun _ => rfl, fun _ => ⟨h, rfl, rfl, rfl, rfl, rfl⟩⟩
    · refine (sdo_zero q1 q2 n1 n2 c1 c2 bs ss a b c d p q s t w h1 h2).mono ?_
      rintro e w' ⟨i1, i2, hb⟩
      refine ⟨fun h => by rw [i2 h, errV_of h], fun h => ?_, hb⟩
      obtain ⟨u1, u2, m1, m2, d1, d2, tv, rfl, D1, D2, OT⟩ := i1 h
      obtain ⟨tq, tc, rfl⟩ := OwnM.form OT
      exact ⟨u1, u2, m1, m2, d1, d2, tq, tc, none, 0, rfl, D1.ls, D2.ls, OT⟩
  · have hm3 : m = 1 ∨ m = 2 ∨ m = 3 := by omega
    by_cases hC : comeE bs ss ⟨a, b, c, d, p, q, s, t⟩ = 0
    rotate_left
    · refine ⟨comeE bs ss ⟨a, b, c, d, p, q, s, t⟩, [], 0, [], [], [], fun h => absurd h hC, fun q1 q2 n1 n2 c1 c2 w h1 h2 => ?_⟩
      refine (sdo_mode m hm3 q1 q2 n1 n2 c1 c2 bs ss a b c d p q s t w h1 h2).mono ?_
      rintro e w' ⟨i1, -, hb⟩
      exact ⟨fun h => by rw [i1 h, errV_of h], fun h => absurd h hC, hb⟩
    have hbk := (come_zero hC).1
    have hog := other_good (o := ⟨a, b, c, d, p, q, s, t⟩) hbk
    obtain ⟨v, hv⟩ := fine_ex (o := ⟨a, b, c, d, p, q, s, t⟩) (k := q) hm3 hog
    refine ⟨sE bs ss ⟨a, b, c, d, p, q, s, t⟩ v, v.ts, gnV v + setG ⟨a, b, c, d, p, q, s, t⟩ (lfV v), setB (repB ⟨a, b, c, d, p, q, s, t⟩ bs v.ls) ⟨a, b, c, d, p, q, s, t⟩ (lfV v), setS (repS ⟨a, b, c, d, p, q, s, t⟩ ss v.ls) ⟨a, b, c, d, p, q, s, t⟩ (lfV v), v.ids, fun h => ?_, fun q1 q2 n1 n2 c1 c2 w h1 h2 => ?_⟩
    · have hlen : v.ts.length ≤ 400 := by
        unfold sE at h
        by_cases h4 : 400 < v.ts.length
        · rw [if_pos h4] at h; omega
        · omega
      refine ⟨hC, hlen, fun _ => fine_never hv, fun h => absurd h h0, fun hn => ?_⟩
      have e := fine_none hv hog hn
      have hMR : metR bs ss ⟨a, b, c, d, p, q, s, t⟩ = tkl ⟨a, b, c, d, p, q, s, t⟩ (otherL bs ss ⟨a, b, c, d, p, q, s, t⟩) q := rfl
      rw [← hMR] at e
      have hlf : lfV v = (metR bs ss ⟨a, b, c, d, p, q, s, t⟩).2.2 := by rw [e]; rfl
      have hgn : gnV v = 0 := by rw [e]; rfl
      have hts : v.ts = (metR bs ss ⟨a, b, c, d, p, q, s, t⟩).2.1 := by rw [e]
      have hids : v.ids = [] := by rw [e]
      have hls : v.ls = (metR bs ss ⟨a, b, c, d, p, q, s, t⟩).1 := by rw [e]
      have hB : repB ⟨a, b, c, d, p, q, s, t⟩ bs v.ls = metB bs ss ⟨a, b, c, d, p, q, s, t⟩ := by rw [hls]; rfl
      have hS : repS ⟨a, b, c, d, p, q, s, t⟩ ss v.ls = metS bs ss ⟨a, b, c, d, p, q, s, t⟩ := by rw [hls]; rfl
      have hd : doE bs ss ⟨a, b, c, d, p, q, s, t⟩ = 0 := by
        unfold doE
        rw [if_pos hC, if_neg (show ¬ 400 < (metR bs ss ⟨a, b, c, d, p, q, s, t⟩).2.1.length from by rw [← hts]; omega)]
      have hr : srefE ⟨a, b, c, d, p, q, s, t⟩ (lfV v) (gnV v) v.ids.length = refE ⟨a, b, c, d, p, q, s, t⟩ (metR bs ss ⟨a, b, c, d, p, q, s, t⟩).2.2 := by
        rw [hlf, hgn, hids]
        unfold srefE refE
        simp
      refine ⟨?_, ?_, ?_, hts, ?_, hids⟩
      · unfold sE at h
        rw [if_neg (by omega), hr, hB, hS, hlf] at h
        unfold kdoE
        rw [if_pos hd]
        exact h
      · rw [hB, hlf]; rfl
      · rw [hS, hlf]; rfl
      · rw [hgn, hlf, Int.zero_add]; rfl
    · refine (sdo_mode m hm3 q1 q2 n1 n2 c1 c2 bs ss a b c d p q s t w h1 h2).mono ?_
      rintro e w' ⟨-, i2, hb⟩
      obtain ⟨j1, j2⟩ := i2 hC v hv
      refine ⟨fun h => by rw [j2 h, errV_of h], fun h => ?_, hb⟩
      obtain ⟨u1, u2, m1, m2, d1, d2, tv, iv, rfl, D1, D2, OT, OI⟩ := j1 h
      obtain ⟨tq, tc, rfl⟩ := OwnM.form OT
      obtain ⟨iq, ic, rfl⟩ := OwnM.form OI
      exact ⟨u1, u2, m1, m2, d1, d2, tq, tc, iq, ic, rfl, D1.ls, D2.ls, OT⟩
end Go.Proofs.Ytnjpjieedgmffaa.slf
