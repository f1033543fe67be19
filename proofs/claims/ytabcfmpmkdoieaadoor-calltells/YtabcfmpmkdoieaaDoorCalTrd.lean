/- Contracts over this seat's translation: call.trade. -/
import Derived.Test.YtabcfmpmkdoieaaDoorCalTk
import Derived.Deep.RegionLaw
namespace Go.Proofs.YtabcfmpmkdoieaaDoor.cal
open Go.RowKit Go.Proofs.YtabcfmpmkdoieaaDoor.ord
open Go.Proofs.YtabcfmpmkdoieaaDoor.wak (Lies SL oL OwnM OwnQ flat own_range gr_below gr_trans gr_alloc step_append_mid)

section
variable {w W : World} {b0 G o n c : Nat} {zs os : List O} {vb vs vt : Value} {bs ss : List Nat} {ts : List T}
theorem own_blk {w : World} {base : Nat} {q : Option Addr} {m cap i : Nat} {t : List Nat} (h : OwnP w base (.slice q m cap) G o zs (i :: t)) : ∃ B off, q = some ⟨B, off, none⟩ ∧ m = t.length + 1 := by
  rcases h.2 with ⟨h1, h2⟩ | ⟨g, off, cp, cur, h1, _⟩
  · simp at h2
  · cases h1; exact ⟨g, off, rfl, by simp⟩
theorem enc_at (hi : b0 < zs.length) : encP G o zs b0 = .pointer (some ⟨G, o + b0 * 8, none⟩) := by unfold encP; rw [Nat.mod_eq_of_lt hi]
theorem subB (x q : Int) (h1 : 0 ≤ q) (h2 : q ≤ x) (h3 : x ≤ 10000) : wrap64 (x - q) = x - q := by unfold wrap64; omega

theorem take_buys {B off m cap b : Nat} {bt : List Nat} {q : Int} (h : TM w b0 G o n c zs os (.slice (some ⟨B, off, none⟩) (m + 1) cap) vs vt (b :: bt) ss ts W) (hm : m = bt.length) (hz : zs.length = os.length) (hb : b < zs.length) (hn : Nn os) (h0 : 0 ≤ q) (hq : q ≤ (os[b]!).qty) :
    Calls Tryd.prog 38 #[.slice (some ⟨B, off, none⟩) (m + 1) cap, .int .i64 q] W fun e w' => ∃ q' m' c', e = .returned (.slice q' m' c') ∧ m' = (if (os[b]!).qty - q = 0 then bt else b :: bt).length ∧ TM w b0 G o n c zs (dq os b q) (.slice q' m' c') vs vt (if (os[b]!).qty - q = 0 then bt else b :: bt) ss ts w' := by
  obtain ⟨c0, hmc, hcc⟩ := own_first h.lb (by simp [hm])
  obtain ⟨hcl, hfr⟩ := h.cells b (by omega)
  have c5 := hcl 5 _ rfl
  rw [enc_at hb] at c0
  have hne : B ≠ G := (h.ob B rfl).1
  have hx := hn b
  have ht := h.take b q (by omega)
  by_cases hy : (os[b]!).qty - q = 0
  · rw [if_pos hy]
    refine (take_gone B off m cap G (o + b * 8) _ q W hne c0 c5 hfr (by rw [subB _ q h0 hq hx.2]; exact hy) hmc hcc).mono ?_
    rintro e w' ⟨rfl, rfl⟩
    refine ⟨_, _, _, rfl, hm, ?_⟩
    rw [hy] at ht
    exact { ht with lb := own_tail ht.lb hm, ob := fun k hk => ht.ob k hk }
  · rw [if_neg hy]
    refine (take_left B off m cap G (o + b * 8) _ q _ W hne c0 c5 hfr (subB _ q h0 hq hx.2) hy).mono ?_
    rintro e w' ⟨rfl, rfl⟩
    exact ⟨_, _, _, rfl, by simp [hm], ht⟩
theorem take_sells {B off m cap b : Nat} {bt : List Nat} {q : Int} (h : TM w b0 G o n c zs os vb (.slice (some ⟨B, off, none⟩) (m + 1) cap) vt bs (b :: bt) ts W) (hm : m = bt.length) (hz : zs.length = os.length) (hb : b < zs.length) (hn : Nn os) (h0 : 0 ≤ q) (hq : q ≤ (os[b]!).qty) :
    Calls Tryd.prog 38 #[.slice (some ⟨B, off, none⟩) (m + 1) cap, .int .i64 q] W fun e w' => ∃ q' m' c', e = .returned (.slice q' m' c') ∧ m' = (if (os[b]!).qty - q = 0 then bt else b :: bt).length ∧ TM w b0 G o n c zs (dq os b q) vb (.slice q' m' c') vt bs (if (os[b]!).qty - q = 0 then bt else b :: bt) ts w' := by
  obtain ⟨c0, hmc, hcc⟩ := own_first h.ls (by simp [hm])
  obtain ⟨hcl, hfr⟩ := h.cells b (by omega)
  have c5 := hcl 5 _ rfl
  rw [enc_at hb] at c0
  have hne : B ≠ G := (h.os' B rfl).1
  have hx := hn b
  have ht := h.take b q (by omega)
  by_cases hy : (os[b]!).qty - q = 0
  · rw [if_pos hy]
    refine (take_gone B off m cap G (o + b * 8) _ q W hne c0 c5 hfr (by rw [subB _ q h0 hq hx.2]; exact hy) hmc hcc).mono ?_
    rintro e w' ⟨rfl, rfl⟩
    refine ⟨_, _, _, rfl, hm, ?_⟩
    rw [hy] at ht
    exact { ht with ls := own_tail ht.ls hm, os' := fun k hk => ht.os' k hk }
  · rw [if_neg hy]
    refine (take_left B off m cap G (o + b * 8) _ q _ W hne c0 c5 hfr (subB _ q h0 hq hx.2) hy).mono ?_
    rintro e w' ⟨rfl, rfl⟩
    exact ⟨_, _, _, rfl, by simp [hm], ht⟩
end

def zeroT : Value := .agg #[.int .i64 0, .int .i64 0, .int .i64 0, .int .i64 0, .int .i64 0, .int .i64 0]
theorem infoT : (Tryd.prog.info? 58).map (fun i => (i.zero, i.size, i.bytes)) = some (some zeroT, 6, 48) := by kernel_rfl
theorem infoT' : ∃ i, Tryd.prog.info? 58 = some i ∧ i.zero = some zeroT ∧ i.size = 6 ∧ i.bytes = 48 := by
  have h := infoT
  cases hq : Tryd.prog.info? 58 with
  | none => rw [hq] at h; simp at h
  | some i =>
    rw [hq] at h
    simp only [Option.map_some, Option.some.injEq, Prod.mk.injEq] at h
    exact ⟨i, rfl, h.1, h.2.1, h.2.2⟩

/-- What call.trade leaves. -/
def TrdPost (w : World) (b0 G o n c : Nat) (zs : List O) (p V : Int) (e : Ending) (w' : World) : Prop :=
  ∃ qt mt ct ts os vb vs bs ss, e = .returned (.slice qt mt ct) ∧ mt = ts.length ∧ U p V zs ts os ∧ Sh zs os ∧ Nn os ∧ mt ≤ 120 ∧ TM w b0 G o n c zs os vb vs (.slice qt mt ct) bs ss ts w'

set_option maxHeartbeats 4000000 in
set_option maxRecDepth 100000 in
theorem trade_any (w : World) (b0 G o n c : Nat) (zs : List O) (qb qs : Option Addr) (mb cb ms cs : Nat) (bs ss : List Nat) (p V : Int) (h60 : zs.length ≤ 60) (hV : V ≤ 600000)
    (hmb : mb = bs.length) (hms : ms = ss.length) (hl1 : bs.length ≤ 60) (hl2 : ss.length ≤ 60) (hM : TM w b0 G o n c zs zs (.slice qb mb cb) (.slice qs ms cs) (.slice none 0 0) bs ss [] w) (hI : TI zs p V zs bs ss V []) :
    Calls Tryd.prog 26 #[.slice qb mb cb, .slice qs ms cs, .int .i64 p, .int .i64 V] w fun e w' => TrdPost w b0 G o n c zs p V e w' := by
  have H0 : Hid (∃ os bs ss ts, mb = bs.length ∧ ms = ss.length ∧ 0 = ts.length ∧ TM w b0 G o n c zs os (.slice qb mb cb) (.slice qs ms cs) (.slice none 0 0) bs ss ts w ∧ TI zs p V os bs ss V ts ∧ ts.length + (bs.length + ss.length) ≤ 120 ∧ V ≤ 600000) := ⟨zs, bs, ss, [], hmb, hms, rfl, hM, hI, by simp; omega, hV⟩
  have HB : Hid (zs.length ≤ 60 ∧ V ≤ 600000 ∧ mb + ms ≤ 120) := ⟨h60, hV, by omega⟩
  obtain ⟨i0, hi0, hz0, hz1, hz2⟩ := infoT'
  have HI := hidC hi0
  clear hM hI h60 hV hmb hms hl1 hl2 hi0
  go_enter Tryd.func26, Tryd.ntmps26
  go_wp2_with fail
  go_loopg [0, 1, 3, 9, 10, 11, 12] 120 (fun gg s0 s1 s3 s9 _ _ _ wr => ∃ qb mb cb qs ms cs v qt mt ct, s0 = .slice qb mb cb ∧ s1 = .slice qs ms cs ∧ s3 = .int .i64 v ∧ s9 = .slice qt mt ct ∧ mb + ms ≤ gg ∧ Aside (∃ os bs ss ts, mb = bs.length ∧ ms = ss.length ∧ mt = ts.length ∧ TM w b0 G o n c zs os (.slice qb mb cb) (.slice qs ms cs) (.slice qt mt ct) bs ss ts wr ∧ TI zs p V os bs ss v ts ∧ ts.length + (bs.length + ss.length) ≤ 120 ∧ v ≤ 600000))
  case atStart => exact ⟨qb, mb, cb, qs, ms, cs, V, none, 0, 0, rfl, rfl, rfl, rfl, HB.out.2.2, H0.out⟩
  case round =>
    clear H0
    obtain ⟨qb, mb, cb, qs, ms, cs, v, qt, mt, ct, rfl, rfl, rfl, rfl, hgg, HA⟩ := hrel
    obtain ⟨os, bs, ss, ts, h1, h2, h3, hM, hT, h4, h5⟩ := HA.out
    by_cases hv : 0 < v
    · obtain ⟨b, bt, s, st, rfl, rfl, hb, hs, hbs, hB1, hB2, hq0, hqv, hTn⟩ := hT.step hv
      obtain ⟨B1, f1, rfl, hm1⟩ := own_blk hM.lb
      obtain ⟨B2, f2, rfl, hm2⟩ := own_blk hM.ls
      subst hm1
      subst hm2
      obtain ⟨c1, -, -⟩ := own_first hM.lb (by simp)
      obtain ⟨c2, -, -⟩ := own_first hM.ls (by simp)
      rw [enc_at hb] at c1
      rw [enc_at hs] at c2
      have hlz : zs.length = os.length := hT.sh.1.symm
      obtain ⟨e1, -⟩ := hM.cells b (by omega)
      obtain ⟨e2, -⟩ := hM.cells s (by omega)
      have HN := hidC hT.nn
      have x0 := e1 0 _ rfl
      have x1 := e1 1 _ rfl
      have x5 := e1 5 _ rfl
      have y0 := e2 0 _ rfl
      have y1 := e2 1 _ rfl
      have y5 := e2 5 _ rfl
      simp only [Nat.add_zero] at x0 y0
      obtain ⟨q, hq⟩ : ∃ q, q = min (os[b]!).qty (os[s]!).qty := ⟨_, rfl⟩
      rw [← hq] at hTn hq0 hqv
      have HT := hidC hTn
      have HM := hidC hM
      obtain ⟨bs2, hbs2⟩ : ∃ l, l = (if (os[b]!).qty - q = 0 then bt else b :: bt) := ⟨_, rfl⟩
      obtain ⟨ss2, hss2⟩ : ∃ l, l = (if (os[s]!).qty - q = 0 then st else s :: st) := ⟨_, rfl⟩
      rw [← hbs2, ← hss2] at HT
      have hl : bs2.length + ss2.length + 1 ≤ bt.length + 1 + (st.length + 1) := by
        rw [hbs2, hss2]
        by_cases z1 : (os[b]!).qty - q = 0
        · rw [if_pos z1]
          split <;> (try simp only [List.length_cons]) <;> omega
        · rw [if_neg z1, if_pos (by omega)]
          simp only [List.length_cons]
          omega
      simp only [List.length_cons] at h4
      have HX : Hid (b < zs.length ∧ s < zs.length ∧ b ≠ s ∧ zs.length = os.length ∧ q ≤ (os[b]!).qty ∧ q ≤ (os[s]!).qty ∧ 0 < q) := ⟨hb, hs, hbs, hlz, by omega, by omega, hq0⟩
      have HY : Hid (ts.length + 1 + (bs2.length + ss2.length) ≤ 120 ∧ bs2.length + ss2.length < gk ∧ mt = ts.length ∧ mt ≤ 120 ∧ v - q ≤ 600000) := ⟨by omega, by omega, h3, by omega, by omega⟩
      have HQ := hidC hq
      have HBS : Hid (bs2 = if (os[b]!).qty - q = 0 then bt else b :: bt) := hbs2
      have HSS : Hid (ss2 = if (os[s]!).qty - q = 0 then st else s :: st) := hss2
      have wv : wrap64 (v - q) = v - q := wrapW (v - q) _ rfl (by omega) (by omega)
      obtain ⟨A1, hA1⟩ : ∃ x, x = o + b * 8 := ⟨_, rfl⟩
      obtain ⟨A2, hA2⟩ : ∃ x, x = o + s * 8 := ⟨_, rfl⟩
      have hbz : ¬ ((bt.length : Int) + 1 ≤ 0) := by clear wv; omega
      have HCL : Hid (∀ V, TM w b0 G o n c zs os (.slice (some ⟨B1, f1, none⟩) (bt.length + 1) cb) (.slice (some ⟨B2, f2, none⟩) (st.length + 1) cs) (.slice qt mt ct) (b :: bt) (s :: st) ts V → V.cell? ⟨G, A1, none⟩ = some (.int .i64 (os[b]!).id) ∧ V.cell? ⟨G, A1 + 1, none⟩ = some (.int .i64 (os[b]!).who) ∧ V.cell? ⟨G, A1 + 5, none⟩ = some (.int .i64 (os[b]!).qty) ∧ V.cell? ⟨G, A2, none⟩ = some (.int .i64 (os[s]!).id) ∧ V.cell? ⟨G, A2 + 1, none⟩ = some (.int .i64 (os[s]!).who) ∧ V.cell? ⟨G, A2 + 5, none⟩ = some (.int .i64 (os[s]!).qty)) := fun V hV => by
        obtain ⟨g1, -⟩ := hV.cells b (by clear wv; omega)
        obtain ⟨g2, -⟩ := hV.cells s (by clear wv; omega)
        rw [hA1, hA2]
        exact ⟨g1 0 _ rfl, g1 1 _ rfl, g1 5 _ rfl, g2 0 _ rfl, g2 1 _ rfl, g2 5 _ rfl⟩
      rw [← hA1] at c1
      rw [← hA2] at c2
      have HTR : Hid (trOf os b s p q = ⟨(os[s]!).id, (os[b]!).id, (os[s]!).who, (os[b]!).who, p, q⟩) := rfl
      generalize hX0 : (os[b]!).id = X0 at HCL HTR
      generalize hX1 : (os[b]!).who = X1 at HCL HTR
      generalize hY0 : (os[s]!).id = Y0 at HCL HTR
      generalize hY1 : (os[s]!).who = Y1 at HCL HTR
      generalize hX5 : (os[b]!).qty = X5 at HCL HQ
      generalize hY5 : (os[s]!).qty = Y5 at HCL HQ
      have hq' : min X5 Y5 = q := HQ.out.symm
      clear x0 x1 x5 y0 y1 y5 e1 e2 hT hTn hM HA hgg h1 h2 h3 h4 h5 hb hs hbs hB1 hB2 hq0 hqv hq hbs2 hss2 hl hlz hA1 hA2 hX0 hX1 hY0 hY1 hX5 hY5 HQ
      go_wp2_with fail
      go_quiet (fail)
      have HM2 := hidC (HM.out.drawn nq)
      clear c1 c2 HM
      generalize wr.drewN nq = w2 at HM2 ⊢
      clear nq
      obtain ⟨x0, x1, x5, y0, y1, y5⟩ := HCL.out _ HM2.out
      go_wp2_with fail
      go_quiet (fail)
      have HM3 := hidC (HM2.out.drawn nq)
      clear x0 x1 x5 y0 y1 y5 HM2
      generalize w2.drewN nq = w3 at HM3 ⊢
      clear nq
      try simp only [hq']
      obtain ⟨x0, x1, x5, y0, y1, y5⟩ := HCL.out _ HM3.out
      clear HCL
      go_upto_region 5 with fail
      have hBA : Below w3.heap.size w3 (w3.alloc (.cells #[.int .i64 Y0, .int .i64 X0, .int .i64 Y1, .int .i64 X1, .int .i64 p, .int .i64 q] 58)).drew := ((Below.refl _ _).alloc (Nat.le_refl _) _).drew
      have HR : Hid (OwnM (w3.alloc (.cells #[.int .i64 Y0, .int .i64 X0, .int .i64 Y1, .int .i64 X1, .int .i64 p, .int .i64 q] 58)).drew w.heap.size 58 6 (.slice qt mt ct) mt (flatT ts)) := by
        have h := OwnM.below HM3.out.tr hBA
        rw [← HY.out.2.2.1] at h
        exact h
      have HNW : Hid (∀ j u, (tL ⟨Y0, X0, Y1, X1, p, q⟩)[j]? = some u → (w3.alloc (.cells #[.int .i64 Y0, .int .i64 X0, .int .i64 Y1, .int .i64 X1, .int .i64 p, .int .i64 q] 58)).drew.cell? ((⟨w3.heap.size, 0, none⟩ : Addr).add j) = some u) := by
        intro j u hu
        have := World.news_of_block (w := (w3.alloc (.cells #[.int .i64 Y0, .int .i64 X0, .int .i64 Y1, .int .i64 X1, .int .i64 p, .int .i64 q] 58)).drew) (heap_alloc_new w3 _) j u hu
        simpa using this
      have s3 : Hid (mt + 1 ≤ maxLen) := by show _ ≤ _; have := HY.out; clear wv; unfold maxLen; omega
      have s4 : Hid ((mt + 1) * 48 ≤ 140737488355328) := by show _ ≤ _; have := HY.out; clear wv; omega
      have s5 : Hid (w.heap.size ≤ (w3.alloc (.cells #[.int .i64 Y0, .int .i64 X0, .int .i64 Y1, .int .i64 X1, .int .i64 p, .int .i64 q] 58)).drew.heap.size) := by show _ ≤ _; have h1 := HM3.out.gr.size; have h2 := hBA.size; exact Nat.le_trans h1 h2
      have s6 : Hid (∀ u ∈ tL ⟨Y0, X0, Y1, X1, p, q⟩, u.oneCell' = true) := by
        intro u hu
        simp only [tL, List.mem_cons, List.not_mem_nil, or_false] at hu
        rcases hu with rfl | rfl | rfl | rfl | rfl | rfl <;> rfl
      clear hBA
      go_cut [9] from 30 to 51 (fun s9 wx => ∃ qt2 ct2, s9 = .slice qt2 (mt + 1) ct2 ∧ Aside (TM w b0 G o n c zs os (.slice (some ⟨B1, f1, none⟩) (bt.length + 1) cb) (.slice (some ⟨B2, f2, none⟩) (st.length + 1) cs) (.slice qt2 (mt + 1) ct2) (b :: bt) (s :: st) (ts ++ [trOf os b s p q]) wx))
      case first =>
        go_region_law (refine step_append_mid _ rfl (.tmp 30) (.tmp 50) 34 rfl w.heap.size 58 i0 zeroT 6 48 Tryd.underlying34 HI.out hz0 hz1 hz2 rfl (.slice qt mt ct) mt (flatT ts) (by simp [Act.eval]) HR.out ⟨w3.heap.size, 0, none⟩ 1 1 (tL ⟨Y0, X0, Y1, X1, p, q⟩) (by simp [Act.eval]) rfl HNW.out s6.out s3.out s4.out s5.out ?_; intro v' w' hO' hgr hat)
        all_goals (
          obtain ⟨qt2, ct2, hv2⟩ := OwnM.form hO'
          subst hv2
          have HNX : Hid (TM w b0 G o n c zs os (.slice (some ⟨B1, f1, none⟩) (bt.length + 1) cb) (.slice (some ⟨B2, f2, none⟩) (st.length + 1) cs) (.slice qt2 (mt + 1) ct2) (b :: bt) (s :: st) (ts ++ [trOf os b s p q]) w') := (by
            refine HM3.out.trade hgr ?_
            rw [← HY.out.2.2.1, HTR.out]
            exact hO')
          clear hO' hgr hat
          go_wp2_with fail
          go_simp
          go_meet
          exact ⟨qt2, ct2, rfl, HNX.out⟩)
      case rest =>
        obtain ⟨qt2, ct2, rfl, HM4⟩ := hcut
        have HC1 := hidC (take_buys (q := q) HM4.out rfl HX.out.2.2.2.1 HX.out.1 HN.out (Int.le_of_lt HX.out.2.2.2.2.2.2) HX.out.2.2.2.2.1)
        clear HR HNW s3 s4 s5 s6 x0 x1 x5 y0 y1 y5 HM3 HM4
        go_wp2_with fail
        refine HC1.out.mono ?_
        rintro e w5 ⟨q1, m1, d1, rfl, hm1, hM5⟩
        rw [← HBS.out] at hm1 hM5
        have es : (dq os b q)[s]! = os[s]! := dq_ne os b q s (fun e => HX.out.2.2.1 e.symm)
        have hn1 : Nn (dq os b q) := nn_dq HN.out b q (Int.le_of_lt HX.out.2.2.2.2.2.2) HX.out.2.2.2.2.1
        have hC2 := take_sells (q := q) hM5 rfl (by rw [dq_len]; exact HX.out.2.2.2.1) HX.out.2.1 hn1 (Int.le_of_lt HX.out.2.2.2.2.2.2) (by rw [es]; exact HX.out.2.2.2.2.2.1)
        rw [es, ← HSS.out] at hC2
        have HC2 := hidC hC2
        have HM1 := hidC hm1
        clear HC1 hm1 hM5 es hn1 hC2
        go_wp2_with fail
        refine HC2.out.mono ?_
        rintro e w6 ⟨q2, m2, d2, rfl, hm2, hM6⟩
        have HM6 := hidC hM6
        have HM2' := hidC hm2
        clear HC2 hm2 hM6
        go_wp2_with fail
        go_roundg (bs2.length + ss2.length)
        case measure => exact HY.out.2.1
        case rel =>
          have h1 := HY.out
          refine ⟨q1, m1, d1, q2, m2, d2, v - q, qt2, mt + 1, ct2, rfl, rfl, by first | rfl | exact congrArg (Value.int .i64) wv, rfl, by rw [HM1.out, HM2'.out]; exact Nat.le_refl _, _, bs2, ss2, _, HM1.out, HM2'.out, ?_, HM6.out, HT.out, ?_, h1.2.2.2.2⟩
          · rw [List.length_append, ← h1.2.2.1]; rfl
          · rw [List.length_append]; exact h1.1
    · have hvz : ¬ (0 : Int) < v := hv
      have hU := hT.last hv
      have HE : Hid (TrdPost w b0 G o n c zs p V (.returned (.slice qt mt ct)) wr) := ⟨qt, mt, ct, ts, os, _, _, bs, ss, rfl, h3, hU, hT.sh, hT.nn, by omega, hM⟩
      clear hU hT hM HA h1 h2 h3 h4 h5 hgg hv
      go_wp2_with fail
      go_ret
      exact HE.out
end Go.Proofs.YtabcfmpmkdoieaaDoor.cal
