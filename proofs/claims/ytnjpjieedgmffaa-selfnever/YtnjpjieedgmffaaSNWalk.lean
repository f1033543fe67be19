/- The walk of SelfNever. -/
import Derived.Test.YtnjpjieedgmffaaSNPure
import Derived.Test.YtnjpjieedgmffaaBokSame
import Derived.Deep.RegionHeld3
import Derived.Deep.QuietTactic
import Derived.BigQuiet
namespace Go.Proofs.Ytnjpjieedgmffaa.slf
open Go.RowKit Go.Proofs.Ytnjpjieedgmffaa.spn Go.Proofs.Ytnjpjieedgmffaa.que Go.Proofs.Ytnjpjieedgmffaa.sid Go.Proofs.Ytnjpjieedgmffaa.bok Go.Proofs.Ytnjpjieedgmffaa.mee Go.Proofs.Ytnjpjieedgmffaa.kin
open Go.Proofs.Ytnjpjieedgmffaa.ord (O oV mB mE chk)

def anyW (u : Int) (zs : List R) : Bool := zs.any (fun r => r.who == u)
theorem anyW_take (u : Int) (zs : List R) (k : Nat) (hk : k < zs.length) : anyW u (zs.take (k + 1)) = (anyW u (zs.take k) || (zs[k]!.who == u)) := by
  unfold anyW
  rw [List.take_succ_eq_append_getElem hk, List.any_append, getE _ _ hk]
  simp
theorem ownq_at {w : World} {base : Nat} {q : Option Addr} {n c : Nat} {zs : List R} (h : OwnQ w base (.slice q n c) zs) {k : Nat} (hk : k < zs.length) : ∃ b o, q = some ⟨b, o, none⟩ ∧ w.cell? ⟨b, o + k * 5 + 1, none⟩ = some (.int .i64 zs[k]!.who) := by
  rcases OwnQ.sl h with ⟨-, e⟩ | ⟨b, o, c', e, -, -, -, hl⟩
  · rw [e] at hk; cases hk
  · simp only [Value.slice.injEq] at e
    obtain ⟨rfl, -, -⟩ := e
    exact ⟨b, o, rfl, hl k hk 1 _ rfl⟩

set_option maxRecDepth 100000 in
set_option maxHeartbeats 8000000 in
theorem never_walk (m : Int) (q1 q2 : Option Addr) (n1 n2 c1 c2 : Nat) (bs ss : List L) (a b c d p q s t : Int) (w : World) (h1 : LS w (.slice q1 n1 c1) bs) (h2 : LS w (.slice q2 n2 c2) ss) :
    Calls Try.prog 3 #[.agg #[.slice q1 n1 c1, .slice q2 n2 c2], .agg #[.int .i64 a, .int .i64 b, .int .i64 c, .int .i64 d, .int .i64 p, .int .i64 q, .int .i64 s, .int .i64 t], .int .i64 m] w fun e w' => e = .returned (.bool true) ∧ Below w.heap.size w w' := by
  obtain ⟨V1, hV1⟩ : ∃ V1, V1 = w.alloc (.cells #[.slice q1 n1 c1, .slice q2 n2 c2] 24) := ⟨_, rfl⟩
  have hs1 : V1.heap.size = w.heap.size + 1 := by rw [hV1]; simp
  have hb1 : Below w.heap.size w V1 := by rw [hV1]; exact (Below.refl _ _).alloc (Nat.le_refl _) _
  have hr1 : V1.heap[w.heap.size]? = some (.cells #[.slice q1 n1 c1, .slice q2 n2 c2] 24 (0, 0)) := by rw [hV1]; exact heap_alloc_new w _
  obtain ⟨V, hV⟩ : ∃ V, V = V1.alloc (.cells #[.int .i64 a, .int .i64 b, .int .i64 c, .int .i64 d, .int .i64 p, .int .i64 q, .int .i64 s, .int .i64 t] 26) := ⟨_, rfl⟩
  have hs2 : V.heap.size = w.heap.size + 2 := by rw [hV]; simp [hs1]
  have hb2 : Below V1.heap.size V1 V := by rw [hV]; exact (Below.refl _ _).alloc (Nat.le_refl _) _
  have hr2 : V.heap[w.heap.size + 1]? = some (.cells #[.int .i64 a, .int .i64 b, .int .i64 c, .int .i64 d, .int .i64 p, .int .i64 q, .int .i64 s, .int .i64 t] 26 (0, 0)) := by rw [← hs1, hV]; exact heap_alloc_new V1 _
  have hrB : V.heap[w.heap.size]? = some (.cells #[.slice q1 n1 c1, .slice q2 n2 c2] 24 (0, 0)) := by rw [hb2.block _ (by omega)]; exact hr1
  have hBV : Below w.heap.size w V := hb1.trans (hb2.mono hb1.size)
  obtain ⟨G, hG⟩ : ∃ G, G = w.heap.size := ⟨_, rfl⟩
  obtain ⟨Q, hQ⟩ : ∃ Q, Q = w.heap.size + 1 := ⟨_, rfl⟩
  have HSO : Hid (∀ W, Below V.heap.size V W → Below w.heap.size w W ∧ W.heap[G]? = some (.cells #[.slice q1 n1 c1, .slice q2 n2 c2] 24 (0, 0)) ∧ W.heap[Q]? = some (.cells #[.int .i64 a, .int .i64 b, .int .i64 c, .int .i64 d, .int .i64 p, .int .i64 q, .int .i64 s, .int .i64 t] 26 (0, 0))) := fun W hW =>
    ⟨hBV.trans (hW.mono hBV.size), by rw [hG]; exact (hW.block _ (by omega)).trans hrB, by rw [hQ]; exact (hW.block _ (by omega)).trans hr2⟩
  have HL : Hid (LS w (.slice q1 n1 c1) bs ∧ LS w (.slice q2 n2 c2) ss) := ⟨h1, h2⟩
  -- the book of one
  obtain ⟨U, hU⟩ : ∃ U, U = ((V.alloc (.cells #[.int .i64 1, .int .i64 2, .int .i64 5, .int .i64 0, .int .i64 0] 28)).alloc (.cells #[.int .i64 100, .slice (some ⟨V.heap.size, 0, none⟩) 1 1] 31)).alloc (.cells #[.slice none 0 0, .slice (some ⟨V.heap.size + 1, 0, none⟩) 1 1] 24) := ⟨_, rfl⟩
  have hBU : Below V.heap.size V U := by rw [hU]; exact (((Below.refl _ _).alloc (Nat.le_refl _) _).alloc (by simp) _).alloc (by simp; omega) _
  have hLU : LS U (.slice (some ⟨V.heap.size + 1, 0, none⟩) 1 1) oneL := by rw [hU]; exact (one_lay V).below ((Below.refl _ _).alloc (Nat.le_refl _) _)
  have HON := hidK (one_do (some ⟨V.heap.size + 1, 0, none⟩) 1 U hLU)
  have HBU := hidK hBU
  obtain ⟨nE, ts, GG, BB, SS, ids, hf, hc⟩ := nv_any m bs ss a b c d p q s t
  have HF := hidK hf
  have HNV : Hid (∀ W, Below V.heap.size V W → Calls Try.prog 5 #[.agg #[.slice q1 n1 c1, .slice q2 n2 c2], .agg #[.int .i64 a, .int .i64 b, .int .i64 c, .int .i64 d, .int .i64 p, .int .i64 q, .int .i64 s, .int .i64 t], .int .i64 m] W fun e w' => (¬ nE = 0 → e = .returned (.tuple #[.agg #[.slice none 0 0, .slice none 0 0], .slice none 0 0, .int .i64 0, .slice none 0 0, .iface 64 (.int .i64 nE)])) ∧
        (nE = 0 → ∃ u1 u2 m1 m2 d1 d2 tq tc iq ic, e = .returned (.tuple #[.agg #[.slice u1 m1 d1, .slice u2 m2 d2], .slice tq ts.length tc, .int .i64 GG, .slice iq ids.length ic, .nilIface]) ∧ LS w' (.slice u1 m1 d1) BB ∧ LS w' (.slice u2 m2 d2) SS ∧ OwnT w' W.heap.size (.slice tq ts.length tc) ts) ∧ Below W.heap.size W w') := fun W hW =>
    hc q1 q2 n1 n2 c1 c2 W (h1.below (hBV.trans (hW.mono hBV.size))) (h2.below (hBV.trans (hW.mono hBV.size)))
  clear hs1 hs2 hb1 hb2 hr1 hr2 hrB hBV h1 h2 hf hc hLU hBU
  go_enter Try.func3, Try.ntmps3
  go_upto_region 1 with fail
  rw [← hV1, ← hV]
  simp only [← hQ]
  simp only [← hG]
  clear hV1 hV hG hQ
  go_wp2_with fail
  rw [← hU]
  clear hU
  refine HON.out.mono ?_
  rintro e w1 ⟨u1, u2, o1, d1, d2, tq, tc, g, off, ic, rfl, hcell, b1⟩
  have hBa : Below w1.heap.size w1 (w1.alloc (.cells #[.slice u1 o1 d1, .slice u2 0 d2] 24)) := (Below.refl _ _).alloc (Nat.le_refl _) _
  have hRa : (w1.alloc (.cells #[.slice u1 o1 d1, .slice u2 0 d2] 24)).heap[w1.heap.size]? = some (.cells #[.slice u1 o1 d1, .slice u2 0 d2] 24 (0, 0)) := heap_alloc_new w1 _
  have HW1 := hidK (HBU.out.trans ((b1.trans (hBa.mono b1.size)).mono HBU.out.size))
  have x1 := keeps hBa hcell
  clear b1 hBa hcell HON
  go_upto_region 3 with fail
  generalize w1.alloc (.cells #[.slice u1 o1 d1, .slice u2 0 d2] 24) = W1 at *
  generalize w1.heap.size = G1 at *
  obtain ⟨y0, y1, -⟩ := rowTwo hRa
  clear hRa
  go_upto_region 5 with fail
  clear x1 y0 y1
  obtain ⟨hw1, hG1, hQ1⟩ := HSO.out W1 HW1.out
  obtain ⟨g0, g1, -⟩ := rowTwo hG1
  obtain ⟨o0, o1', o2, o3, o4, o5, o6, o7, -⟩ := rowO hQ1
  clear hw1 hG1 hQ1
  go_wp2_with fail
  refine (HNV.out W1 HW1.out).mono ?_
  rintro e w2 ⟨i1, i2, b2⟩
  have HW2 := hidK (HW1.out.trans (b2.mono HW1.out.size))
  clear b2 g0 g1 o0 o1' o2 o3 o4 o5 o6 o7
  by_cases hE : nE = 0
  rotate_left
  · have e2 := i1 hE
    subst e2
    have HD := hidK (HSO.out w2 HW2.out).1
    clear i1 i2
    go_wp2_with fail
    go_ret
    exact ⟨rfl, HD.out.alloc HD.out.size _⟩
  obtain ⟨v1, v2, l1, l2, f1, f2, tq, tc, iq, ic, rfl, L1, L2, OT⟩ := i2 hE
  obtain ⟨hCC, h400, hnev, hm0, hno⟩ := HF.out hE
  have HE := hidK hE
  have HNO := hidK hno
  have HNEV := hidK hnev
  have HM0 := hidK hm0
  have hBa : Below w2.heap.size w2 (w2.alloc (.cells #[.slice v1 l1 f1, .slice v2 l2 f2] 24)) := (Below.refl _ _).alloc (Nat.le_refl _) _
  have HW3 := hidK (HW2.out.trans (hBa.mono HW2.out.size))
  have HT := hidK (OwnM.below OT hBa)
  obtain ⟨tn, htn⟩ : ∃ tn, ts.length = tn := ⟨_, rfl⟩
  obtain ⟨jn, hjn⟩ : ∃ jn, ids.length = jn := ⟨_, rfl⟩
  rw [htn, hjn]
  have HTL := hidK (show ts.length = tn ∧ tn ≤ 400 from ⟨htn, by omega⟩)
  have HJN := hidK hjn
  have HC := hidK hCC
  clear i1 i2 L1 L2 OT hBa htn hjn hE hCC h400 hnev hm0 hno HF
  go_upto_region 6 with fail
  generalize w2.alloc (.cells #[.slice v1 l1 f1, .slice v2 l2 f2] 24) = W3 at *
  generalize w2.heap.size = G2 at *
  go_wp2_with fail
  go_loopg [18] tn (fun gg s18 wr => ∃ kk : Nat, kk ≤ tn ∧ tn - kk ≤ gg ∧ s18 = .int .i64 kk ∧ Aside (Below W3.heap.size W3 wr))
  case atStart => exact ⟨0, Nat.zero_le _, by omega, rfl, Below.refl _ _⟩
  case round =>
    obtain ⟨kk, hkk, hg, rfl, BW⟩ := hrel
    have HBW := hidK BW.out
    have HWR := hidK (HW3.out.trans (BW.out.mono HW3.out.size))
    clear BW
    by_cases hgo : kk < tn ∧ ¬ m = 0
    · obtain ⟨hlt, hm0⟩ := hgo
      have hltz : (kk : Int) < (tn : Int) := by omega
      have hmb : (m != 0) = true := by simp [hm0]
      have hkt : kk < ts.length := by rw [HTL.out.1]; exact hlt
      obtain ⟨g, off, htq, -, z0, z1, z2, z3, z4, z5⟩ := OwnT.at HT.out hkt
      subst htq
      have t2 := keeps HBW.out z2
      have t3 := keeps HBW.out z3
      have hne := HNEV.out hm0 ts[kk]! (by rw [getE _ _ hkt]; exact List.getElem_mem hkt)
      obtain ⟨fx, hfx⟩ : ∃ fx, ts[kk]!.frm = fx := ⟨_, rfl⟩
      obtain ⟨tx, htx⟩ : ∃ tx, ts[kk]!.into = tx := ⟨_, rfl⟩
      rw [hfx] at t2 hne
      rw [htx] at t3 hne
      have hneb : (fx == tx) = false := by simp [hne]
      have hin1 : ¬ ((kk : Int) < 0) := Int.not_lt.2 (Int.natCast_nonneg _)
      have HMs : Hid (tn - (kk + 1) < gk ∧ kk + 1 ≤ tn) := ⟨by omega, by omega⟩
      have E2 : Hid (wrap64 ((kk : Int) + 1) = ((kk + 1 : Nat) : Int)) := by
        have h := HTL.out.2
        show _ = _
        unfold wrap64
        omega
      clear hkt hkk hg hlt z0 z1 z2 z3 z4 z5 hne hfx htx
      go_upto_region 11 with fail
      go_quiet (fail)
      have x2 := E2.out
      have HBN : Hid (∀ n, Below W3.heap.size W3 (wr.drewN n)) := fun n => belowN HBW.out n
      go_wp2_with fail
      go_roundg (tn - (kk + 1))
      case measure => exact HMs.out.1
      case rel => exact ⟨kk + 1, HMs.out.2, Nat.le_refl _, by first | rfl | rw [E2.out], HBN.out _⟩
    · have HKM : Hid (¬ (kk < tn ∧ ¬ m = 0)) := hgo
      -- the loop is over
      obtain ⟨hwr, hGr, hQr⟩ := HSO.out wr HWR.out
      obtain ⟨g0, g1, -⟩ := rowTwo hGr
      obtain ⟨o0, o1', o2, o3, o4, o5, o6, o7, -⟩ := rowO hQr
      obtain ⟨hbk, hck, -, -⟩ := come_zero HC.out
      have hcs : c = 1 ∨ c = 2 := by
        have h := (ord.chk_zero hck).1
        simp [ord.headB] at h
        omega
      obtain ⟨c3, hc3⟩ : ∃ c3, wrap64 (3 - c) = c3 := ⟨_, rfl⟩
      obtain ⟨OL, hOL⟩ : ∃ OL, otherL bs ss ⟨a, b, c, d, p, q, s, t⟩ = OL := ⟨_, rfl⟩
      have hof : ∃ xq xn xc, (∀ W, Calls Try.prog 7 #[.agg #[.slice q1 n1 c1, .slice q2 n2 c2], .int .i64 c3] W fun e w' => e = .returned (.slice xq xn xc) ∧ Below W.heap.size W w') ∧ LS w (.slice xq xn xc) OL := by
        rw [← hOL]
        rcases hcs with rfl | rfl
        · have e3 : c3 = 2 := by rw [← hc3]; unfold wrap64; omega
          subst e3
          exact ⟨q2, n2, c2, fun W => rof_any 2 q1 q2 n1 n2 c1 c2 W, HL.out.2⟩
        · have e3 : c3 = 1 := by rw [← hc3]; unfold wrap64; omega
          subst e3
          exact ⟨q1, n1, c1, fun W => rof_any 1 q1 q2 n1 n2 c1 c2 W, HL.out.1⟩
      obtain ⟨xq, xn, xc, hofc, hofl⟩ := hof
      have HOFC := hidK hofc
      have HOFL := hidK hofl
      have H60 : Hid (cnt OL ≤ 60) := by
        obtain ⟨e1, e2, -⟩ := book_zero hbk
        show _ ≤ _
        rw [← hOL]
        unfold otherL
        split
        · exact (schk_zero e2).2.2.1
        · exact (schk_zero e1).2.2.1
      have HOL := hidK hOL
      have HWW := hidK hwr
      clear hofc hofl hOL hcs hbk hck hgo hkk hg hwr hGr hQr
      by_cases hm0 : kk < tn
      · -- the mode is Allow
        have hltz : (kk : Int) < (tn : Int) := by omega
        have hmz : m = 0 := Classical.byContradiction fun h => HKM.out ⟨hm0, h⟩
        have hmb : (m != 0) = false := by simp [hmz]
        clear hm0 hmz
        go_wp2_with fail
        clear hmb
        refine (HOFC.out wr).mono ?_
        rintro e w4 ⟨rfl, b4⟩
        have HW4 := hidK (HWR.out.trans (b4.mono HWR.out.size))
        have HFL := hidK (rflat_any (.slice xq xn xc) OL w4 (HOFL.out.below (HSO.out w4 HW4.out).1) H60.out)
        clear b4 g0 g1 o0 o1' o2 o3 o4 o5 o6 o7
        go_wp2_with fail
        refine HFL.out.mono ?_
        rintro e w5 ⟨fu, rfl, OF, b5⟩
        have HW5 := hidK (HW4.out.trans (b5.mono HW4.out.size))
        obtain ⟨fq, fc, hfu⟩ := OwnM.form OF
        subst hfu
        have HOF := hidK OF
        obtain ⟨ZS, hZS⟩ : ∃ ZS, allR OL = ZS := ⟨_, rfl⟩
        have HZS := hidK (show allR OL = ZS ∧ ZS.length ≤ 60 from ⟨hZS, by have h := H60.out; rw [cnt_allR, hZS] at h; omega⟩)
        rw [hZS] at HOF ⊢
        obtain ⟨fn, hfn⟩ : ∃ fn, ZS.length = fn := ⟨_, rfl⟩
        have HFN := hidK hfn
        rw [hfn]
        clear b5 OF hZS hfn HFL HT HTL
        go_wp2_with fail
        go_loopg [19, 21] fn (fun gg s19 s21 wr => ∃ kk : Nat, kk ≤ fn ∧ fn - kk ≤ gg ∧ s21 = .int .i64 kk ∧ s19 = .bool (anyW b (ZS.take kk)) ∧ Aside (Below w5.heap.size w5 wr))
        case atStart => exact ⟨0, Nat.zero_le _, by omega, rfl, rfl, Below.refl _ _⟩
        case round =>
          obtain ⟨kk, hkk, hg, rfl, rfl, BW⟩ := hrel
          have HBW := hidK BW.out
          have HWR5 := hidK (HW5.out.trans (BW.out.mono HW5.out.size))
          clear BW
          obtain ⟨ob, hob⟩ : ∃ ob, anyW b (ZS.take kk) = ob := ⟨_, rfl⟩
          have HOB := hidK hob
          rw [hob]
          clear hob
          by_cases hlt : kk < fn
          · have hltz : (kk : Int) < (fn : Int) := by omega
            have hkt : kk < ZS.length := by rw [HFN.out]; exact hlt
            obtain ⟨lb, lo, hfq, zc⟩ := ownq_at HOF.out hkt
            subst hfq
            have zc2 := keeps HBW.out zc
            obtain ⟨-, -, hQr⟩ := HSO.out _ HWR5.out
            obtain ⟨o0, o1', o2, o3, o4, o5, o6, o7, -⟩ := rowO hQr
            obtain ⟨zw, hzw⟩ : ∃ zw, ZS[kk]!.who = zw := ⟨_, rfl⟩
            rw [hzw] at zc2
            have hin1 : ¬ ((kk : Int) < 0) := Int.not_lt.2 (Int.natCast_nonneg _)
            have HMs : Hid (fn - (kk + 1) < gk ∧ kk + 1 ≤ fn) := ⟨by omega, by omega⟩
            have E2 : Hid (wrap64 ((kk : Int) + 1) = ((kk + 1 : Nat) : Int)) := by
              have h := HZS.out.2
              have h2 := HFN.out
              show _ = _
              unfold wrap64
              omega
            have HAN := hidK (show anyW b (ZS.take (kk + 1)) = (ob || (zw == b)) from by rw [anyW_take b ZS kk hkt, HOB.out, hzw])
            have HBN : Hid (∀ n, Below w5.heap.size w5 (_root_.Go.World.drewN _ n)) := fun n => belowN HBW.out n
            clear hkt hkk hg hlt zc hzw hQr o0 o2 o3 o4 o5 o6 o7
            cases ob
            · obtain ⟨eb, heb⟩ : ∃ eb, (zw == b) = eb := ⟨_, rfl⟩
              have HEB := hidK heb
              go_upto_region 18 with fail
              go_quiet (fail)
              have x2 := E2.out
              go_wp2_with fail
              go_roundg (fn - (kk + 1))
              case measure => exact HMs.out.1
              case rel => exact ⟨kk + 1, HMs.out.2, Nat.le_refl _, by first | rfl | rw [E2.out], by rw [HAN.out, HEB.out]; rfl, HBN.out _⟩
            · go_upto_region 18 with fail
              go_quiet (fail)
              have x2 := E2.out
              go_wp2_with fail
              go_roundg (fn - (kk + 1))
              case measure => exact HMs.out.1
              case rel => exact ⟨kk + 1, HMs.out.2, Nat.le_refl _, by first | rfl | rw [E2.out], by rw [HAN.out]; rfl, HBN.out _⟩
          · have hltz : ¬ (kk : Int) < (fn : Int) := by omega
            have HOW := hidK (show anyW b ZS = ob from by rw [← HOB.out, List.take_of_length_le (by rw [HFN.out]; omega)])
            have HDD := hidK (HSO.out _ HWR5.out).1
            clear hlt hkk hg
            cases ob
            rotate_left
            · by_cases hmz : m = 0
              · have hjz : jn = 0 := by rw [← HJN.out, HM0.out hmz]; rfl
                subst hjz
                have hmb2 : (m != 0) = false := by simp [hmz]
                go_wp2_with fail
                go_ret
                exact ⟨rfl, HDD.out⟩
              · have hmb2 : (m != 0) = true := by simp [hmz]
                go_wp2_with fail
                go_ret
                exact ⟨rfl, HDD.out⟩
            · have hnone : ∀ r ∈ allR (otherL bs ss ⟨a, b, c, d, p, q, s, t⟩), ¬ r.who = b := by
                rw [HOL.out, HZS.out.1]
                have h := HOW.out
                unfold anyW at h
                rw [List.any_eq_false] at h
                intro r hr e
                exact h r hr (by simp [e])
              obtain ⟨n1', n2', n3', n4', n5', n6'⟩ := HNO.out hnone
              have HKE := hidK n1'
              have HBS := hidK (show BB = _ ∧ SS = _ from ⟨n2', n3'⟩)
              have HTS := hidK n4'
              have hjz : jn = 0 := by rw [← HJN.out, n6']; rfl
              obtain ⟨KG, hKG⟩ : ∃ KG, kdoG bs ss ⟨a, b, c, d, p, q, s, t⟩ = KG := ⟨_, rfl⟩
              have HKG := hidK hKG
              rw [hKG] at n5'
              subst n5'
              obtain ⟨hwr5, hGr, hQr⟩ := HSO.out _ HWR5.out
              obtain ⟨g0, g1, -⟩ := rowTwo hGr
              obtain ⟨o0, o1', o2, o3, o4, o5, o6, o7, -⟩ := rowO hQr
              have HKD := hidK (kdo_any q1 q2 n1 n2 c1 c2 bs ss a b c d p q s t _ (HL.out.1.below hwr5) (HL.out.2.below hwr5))
              clear hwr5 hGr hQr hKG n1' n2' n3' n4' n6' hnone
              go_wp2_with fail
              refine HKD.out.mono ?_
              rintro e w6 ⟨i1, -, b6⟩
              have HW6 := hidK (HWR5.out.trans (b6.mono HWR5.out.size))
              obtain ⟨y1, y2, j1, j2, e1, e2, tv6, rfl, D1, D2, OT6⟩ := i1 HKE.out
              obtain ⟨tq6, tc6, htv6⟩ := OwnM.form OT6
              subst htv6
              have hBa : Below w6.heap.size w6 (w6.alloc (.cells #[.slice y1 j1 e1, .slice y2 j2 e2] 24)) := (Below.refl _ _).alloc (Nat.le_refl _) _
              have hRY : (w6.alloc (.cells #[.slice y1 j1 e1, .slice y2 j2 e2] 24)).heap[w6.heap.size]? = some (.cells #[.slice y1 j1 e1, .slice y2 j2 e2] 24 (0, 0)) := heap_alloc_new w6 _
              have HW7 := hidK (HW6.out.trans (hBa.mono HW6.out.size))
              have HY1 := hidK (D1.ls.below hBa)
              have HY2 := hidK (D2.ls.below hBa)
              have HYT := hidK (OwnM.below OT6 hBa)
              rw [HKG.out, ← HTS.out]
              rw [← HTS.out] at HYT
              have HTL6 := hidK (show ts.length ≤ 400 from by rw [HTS.out]; exact (doE_zero (kdo_zero HKE.out).1).2)
              obtain ⟨tl, htl⟩ : ∃ tl, ts.length = tl := ⟨_, rfl⟩
              rw [htl]
              have HTLE := hidK htl
              clear g0 g1 o0 o1' o2 o3 o4 o5 o6 o7 i1 D1 D2 OT6 b6 hBa HKD htl
              go_upto_region 22 with fail
              generalize w6.alloc (.cells #[.slice y1 j1 e1, .slice y2 j2 e2] 24) = W7 at *
              generalize w6.heap.size = YB at *
              obtain ⟨-, hGr, hQr⟩ := HSO.out _ HW7.out
              obtain ⟨g0, g1, -⟩ := rowTwo hGr
              obtain ⟨o0, o1', o2, o3, o4, o5, o6, o7, -⟩ := rowO hQr
              clear hGr hQr
              go_wp2_with fail
              refine (HNV.out W7 HW7.out).mono ?_
              rintro e w8 ⟨-, i2, b8⟩
              have HW8 := hidK (HW7.out.trans (b8.mono HW7.out.size))
              obtain ⟨z1, z2, r1, r2, h1', h2', tq8, tc8, iq8, ic8, rfl, L1, L2, OT8⟩ := i2 HE.out
              have hBb : Below w8.heap.size w8 (w8.alloc (.cells #[.slice z1 r1 h1', .slice z2 r2 h2'] 24)) := (Below.refl _ _).alloc (Nat.le_refl _) _
              have hRZ : (w8.alloc (.cells #[.slice z1 r1 h1', .slice z2 r2 h2'] 24)).heap[w8.heap.size]? = some (.cells #[.slice z1 r1 h1', .slice z2 r2 h2'] 24 (0, 0)) := heap_alloc_new w8 _
              have h89 := b8.trans (hBb.mono b8.size)
              have HW9 := hidK (HW7.out.trans (h89.mono HW7.out.size))
              have hRY9 := (h89.block YB (Array.getElem?_eq_some_iff.1 hRY).1).trans hRY
              have HY19 := hidK (HY1.out.below h89)
              have HY29 := hidK (HY2.out.below h89)
              have HYT9 := hidK (OwnM.below HYT.out h89)
              have HZ1 := hidK (show LS (w8.alloc (.cells #[.slice z1 r1 h1', .slice z2 r2 h2'] 24)) (.slice z1 r1 h1') (kdoB bs ss ⟨a, b, c, d, p, q, s, t⟩) from by rw [← HBS.out.1]; exact L1.below hBb)
              have HZ2 := hidK (show LS (w8.alloc (.cells #[.slice z1 r1 h1', .slice z2 r2 h2'] 24)) (.slice z2 r2 h2') (kdoS bs ss ⟨a, b, c, d, p, q, s, t⟩) from by rw [← HBS.out.2]; exact L2.below hBb)
              have HZT := hidK (OwnM.below OT8 hBb)
              rw [HTLE.out, HJN.out, hjz]
              clear g0 g1 o0 o1' o2 o3 o4 o5 o6 o7 i2 L1 L2 OT8 b8 hBb h89 hRY HY1 HY2 HYT
              go_upto_region 23 with fail
              generalize w8.alloc (.cells #[.slice z1 r1 h1', .slice z2 r2 h2'] 24) = W9 at *
              generalize w8.heap.size = ZB at *
              obtain ⟨y0', y1', -⟩ := rowTwo hRY9
              obtain ⟨z0', z1', -⟩ := rowTwo hRZ
              clear hRY9 hRZ
              go_wp2_with fail
              refine (book_same y1 y2 z1 z2 j1 j2 e1 e2 r1 r2 h1' h2' _ _ W9 HY19.out HY29.out HZ1.out HZ2.out).mono ?_
              rintro e w10 ⟨rfl, b10⟩
              have HW10 := hidK (HW9.out.trans (b10.mono HW9.out.size))
              have HYT10 := hidK (OwnM.below HYT9.out b10)
              have HZT10 := hidK (OwnM.below HZT.out b10)
              have HTR := hidK (trades_same tq6 tq8 ts.length ts.length tc6 tc8 _ _ ts w10 (by have := HTL6.out; omega) HYT10.out HZT10.out)
              rw [HTLE.out] at HTR
              clear b10 y0' y1' z0' z1'
              go_wp2_with fail
              refine HTR.out.mono ?_
              rintro e w11 ⟨rfl, b11⟩
              have HD11 := hidK (HSO.out w11 (HW10.out.trans (b11.mono HW10.out.size))).1
              clear b11
              subst hjz
              go_wp2_with fail
              go_ret
              exact ⟨rfl, HD11.out⟩
      · have hltz : ¬ (kk : Int) < (tn : Int) := by omega
        clear hm0
        go_wp2_with fail
        refine (HOFC.out wr).mono ?_
        rintro e w4 ⟨rfl, b4⟩
        have HW4 := hidK (HWR.out.trans (b4.mono HWR.out.size))
        have HFL := hidK (rflat_any (.slice xq xn xc) OL w4 (HOFL.out.below (HSO.out w4 HW4.out).1) H60.out)
        clear b4 g0 g1 o0 o1' o2 o3 o4 o5 o6 o7
        go_wp2_with fail
        refine HFL.out.mono ?_
        rintro e w5 ⟨fu, rfl, OF, b5⟩
        have HW5 := hidK (HW4.out.trans (b5.mono HW4.out.size))
        obtain ⟨fq, fc, hfu⟩ := OwnM.form OF
        subst hfu
        have HOF := hidK OF
        obtain ⟨ZS, hZS⟩ : ∃ ZS, allR OL = ZS := ⟨_, rfl⟩
        have HZS := hidK (show allR OL = ZS ∧ ZS.length ≤ 60 from ⟨hZS, by have h := H60.out; rw [cnt_allR, hZS] at h; omega⟩)
        rw [hZS] at HOF ⊢
        obtain ⟨fn, hfn⟩ : ∃ fn, ZS.length = fn := ⟨_, rfl⟩
        have HFN := hidK hfn
        rw [hfn]
        clear b5 OF hZS hfn HFL HT HTL
        go_wp2_with fail
        go_loopg [19, 21] fn (fun gg s19 s21 wr => ∃ kk : Nat, kk ≤ fn ∧ fn - kk ≤ gg ∧ s21 = .int .i64 kk ∧ s19 = .bool (anyW b (ZS.take kk)) ∧ Aside (Below w5.heap.size w5 wr))
        case atStart => exact ⟨0, Nat.zero_le _, by omega, rfl, rfl, Below.refl _ _⟩
        case round =>
          obtain ⟨kk, hkk, hg, rfl, rfl, BW⟩ := hrel
          have HBW := hidK BW.out
          have HWR5 := hidK (HW5.out.trans (BW.out.mono HW5.out.size))
          clear BW
          obtain ⟨ob, hob⟩ : ∃ ob, anyW b (ZS.take kk) = ob := ⟨_, rfl⟩
          have HOB := hidK hob
          rw [hob]
          clear hob
          by_cases hlt : kk < fn
          · have hltz : (kk : Int) < (fn : Int) := by omega
            have hkt : kk < ZS.length := by rw [HFN.out]; exact hlt
            obtain ⟨lb, lo, hfq, zc⟩ := ownq_at HOF.out hkt
            subst hfq
            have zc2 := keeps HBW.out zc
            obtain ⟨-, -, hQr⟩ := HSO.out _ HWR5.out
            obtain ⟨o0, o1', o2, o3, o4, o5, o6, o7, -⟩ := rowO hQr
            obtain ⟨zw, hzw⟩ : ∃ zw, ZS[kk]!.who = zw := ⟨_, rfl⟩
            rw [hzw] at zc2
            have hin1 : ¬ ((kk : Int) < 0) := Int.not_lt.2 (Int.natCast_nonneg _)
            have HMs : Hid (fn - (kk + 1) < gk ∧ kk + 1 ≤ fn) := ⟨by omega, by omega⟩
            have E2 : Hid (wrap64 ((kk : Int) + 1) = ((kk + 1 : Nat) : Int)) := by
              have h := HZS.out.2
              have h2 := HFN.out
              show _ = _
              unfold wrap64
              omega
            have HAN := hidK (show anyW b (ZS.take (kk + 1)) = (ob || (zw == b)) from by rw [anyW_take b ZS kk hkt, HOB.out, hzw])
            have HBN : Hid (∀ n, Below w5.heap.size w5 (_root_.Go.World.drewN _ n)) := fun n => belowN HBW.out n
            clear hkt hkk hg hlt zc hzw hQr o0 o2 o3 o4 o5 o6 o7
            cases ob
            · obtain ⟨eb, heb⟩ : ∃ eb, (zw == b) = eb := ⟨_, rfl⟩
              have HEB := hidK heb
              go_upto_region 18 with fail
              go_quiet (fail)
              have x2 := E2.out
              go_wp2_with fail
              go_roundg (fn - (kk + 1))
              case measure => exact HMs.out.1
              case rel => exact ⟨kk + 1, HMs.out.2, Nat.le_refl _, by first | rfl | rw [E2.out], by rw [HAN.out, HEB.out]; rfl, HBN.out _⟩
            · go_upto_region 18 with fail
              go_quiet (fail)
              have x2 := E2.out
              go_wp2_with fail
              go_roundg (fn - (kk + 1))
              case measure => exact HMs.out.1
              case rel => exact ⟨kk + 1, HMs.out.2, Nat.le_refl _, by first | rfl | rw [E2.out], by rw [HAN.out]; rfl, HBN.out _⟩
          · have hltz : ¬ (kk : Int) < (fn : Int) := by omega
            have HOW := hidK (show anyW b ZS = ob from by rw [← HOB.out, List.take_of_length_le (by rw [HFN.out]; omega)])
            have HDD := hidK (HSO.out _ HWR5.out).1
            clear hlt hkk hg
            cases ob
            rotate_left
            · by_cases hmz : m = 0
              · have hjz : jn = 0 := by rw [← HJN.out, HM0.out hmz]; rfl
                subst hjz
                have hmb2 : (m != 0) = false := by simp [hmz]
                go_wp2_with fail
                go_ret
                exact ⟨rfl, HDD.out⟩
              · have hmb2 : (m != 0) = true := by simp [hmz]
                go_wp2_with fail
                go_ret
                exact ⟨rfl, HDD.out⟩
            · have hnone : ∀ r ∈ allR (otherL bs ss ⟨a, b, c, d, p, q, s, t⟩), ¬ r.who = b := by
                rw [HOL.out, HZS.out.1]
                have h := HOW.out
                unfold anyW at h
                rw [List.any_eq_false] at h
                intro r hr e
                exact h r hr (by simp [e])
              obtain ⟨n1', n2', n3', n4', n5', n6'⟩ := HNO.out hnone
              have HKE := hidK n1'
              have HBS := hidK (show BB = _ ∧ SS = _ from ⟨n2', n3'⟩)
              have HTS := hidK n4'
              have hjz : jn = 0 := by rw [← HJN.out, n6']; rfl
              obtain ⟨KG, hKG⟩ : ∃ KG, kdoG bs ss ⟨a, b, c, d, p, q, s, t⟩ = KG := ⟨_, rfl⟩
              have HKG := hidK hKG
              rw [hKG] at n5'
              subst n5'
              obtain ⟨hwr5, hGr, hQr⟩ := HSO.out _ HWR5.out
              obtain ⟨g0, g1, -⟩ := rowTwo hGr
              obtain ⟨o0, o1', o2, o3, o4, o5, o6, o7, -⟩ := rowO hQr
              have HKD := hidK (kdo_any q1 q2 n1 n2 c1 c2 bs ss a b c d p q s t _ (HL.out.1.below hwr5) (HL.out.2.below hwr5))
              clear hwr5 hGr hQr hKG n1' n2' n3' n4' n6' hnone
              go_wp2_with fail
              refine HKD.out.mono ?_
              rintro e w6 ⟨i1, -, b6⟩
              have HW6 := hidK (HWR5.out.trans (b6.mono HWR5.out.size))
              obtain ⟨y1, y2, j1, j2, e1, e2, tv6, rfl, D1, D2, OT6⟩ := i1 HKE.out
              obtain ⟨tq6, tc6, htv6⟩ := OwnM.form OT6
              subst htv6
              have hBa : Below w6.heap.size w6 (w6.alloc (.cells #[.slice y1 j1 e1, .slice y2 j2 e2] 24)) := (Below.refl _ _).alloc (Nat.le_refl _) _
              have hRY : (w6.alloc (.cells #[.slice y1 j1 e1, .slice y2 j2 e2] 24)).heap[w6.heap.size]? = some (.cells #[.slice y1 j1 e1, .slice y2 j2 e2] 24 (0, 0)) := heap_alloc_new w6 _
              have HW7 := hidK (HW6.out.trans (hBa.mono HW6.out.size))
              have HY1 := hidK (D1.ls.below hBa)
              have HY2 := hidK (D2.ls.below hBa)
              have HYT := hidK (OwnM.below OT6 hBa)
              rw [HKG.out, ← HTS.out]
              rw [← HTS.out] at HYT
              have HTL6 := hidK (show ts.length ≤ 400 from by rw [HTS.out]; exact (doE_zero (kdo_zero HKE.out).1).2)
              obtain ⟨tl, htl⟩ : ∃ tl, ts.length = tl := ⟨_, rfl⟩
              rw [htl]
              have HTLE := hidK htl
              clear g0 g1 o0 o1' o2 o3 o4 o5 o6 o7 i1 D1 D2 OT6 b6 hBa HKD htl
              go_upto_region 22 with fail
              generalize w6.alloc (.cells #[.slice y1 j1 e1, .slice y2 j2 e2] 24) = W7 at *
              generalize w6.heap.size = YB at *
              obtain ⟨-, hGr, hQr⟩ := HSO.out _ HW7.out
              obtain ⟨g0, g1, -⟩ := rowTwo hGr
              obtain ⟨o0, o1', o2, o3, o4, o5, o6, o7, -⟩ := rowO hQr
              clear hGr hQr
              go_wp2_with fail
              refine (HNV.out W7 HW7.out).mono ?_
              rintro e w8 ⟨-, i2, b8⟩
              have HW8 := hidK (HW7.out.trans (b8.mono HW7.out.size))
              obtain ⟨z1, z2, r1, r2, h1', h2', tq8, tc8, iq8, ic8, rfl, L1, L2, OT8⟩ := i2 HE.out
              have hBb : Below w8.heap.size w8 (w8.alloc (.cells #[.slice z1 r1 h1', .slice z2 r2 h2'] 24)) := (Below.refl _ _).alloc (Nat.le_refl _) _
              have hRZ : (w8.alloc (.cells #[.slice z1 r1 h1', .slice z2 r2 h2'] 24)).heap[w8.heap.size]? = some (.cells #[.slice z1 r1 h1', .slice z2 r2 h2'] 24 (0, 0)) := heap_alloc_new w8 _
              have h89 := b8.trans (hBb.mono b8.size)
              have HW9 := hidK (HW7.out.trans (h89.mono HW7.out.size))
              have hRY9 := (h89.block YB (Array.getElem?_eq_some_iff.1 hRY).1).trans hRY
              have HY19 := hidK (HY1.out.below h89)
              have HY29 := hidK (HY2.out.below h89)
              have HYT9 := hidK (OwnM.below HYT.out h89)
              have HZ1 := hidK (show LS (w8.alloc (.cells #[.slice z1 r1 h1', .slice z2 r2 h2'] 24)) (.slice z1 r1 h1') (kdoB bs ss ⟨a, b, c, d, p, q, s, t⟩) from by rw [← HBS.out.1]; exact L1.below hBb)
              have HZ2 := hidK (show LS (w8.alloc (.cells #[.slice z1 r1 h1', .slice z2 r2 h2'] 24)) (.slice z2 r2 h2') (kdoS bs ss ⟨a, b, c, d, p, q, s, t⟩) from by rw [← HBS.out.2]; exact L2.below hBb)
              have HZT := hidK (OwnM.below OT8 hBb)
              rw [HTLE.out, HJN.out, hjz]
              clear g0 g1 o0 o1' o2 o3 o4 o5 o6 o7 i2 L1 L2 OT8 b8 hBb h89 hRY HY1 HY2 HYT
              go_upto_region 23 with fail
              generalize w8.alloc (.cells #[.slice z1 r1 h1', .slice z2 r2 h2'] 24) = W9 at *
              generalize w8.heap.size = ZB at *
              obtain ⟨y0', y1', -⟩ := rowTwo hRY9
              obtain ⟨z0', z1', -⟩ := rowTwo hRZ
              clear hRY9 hRZ
              go_wp2_with fail
              refine (book_same y1 y2 z1 z2 j1 j2 e1 e2 r1 r2 h1' h2' _ _ W9 HY19.out HY29.out HZ1.out HZ2.out).mono ?_
              rintro e w10 ⟨rfl, b10⟩
              have HW10 := hidK (HW9.out.trans (b10.mono HW9.out.size))
              have HYT10 := hidK (OwnM.below HYT9.out b10)
              have HZT10 := hidK (OwnM.below HZT.out b10)
              have HTR := hidK (trades_same tq6 tq8 ts.length ts.length tc6 tc8 _ _ ts w10 (by have := HTL6.out; omega) HYT10.out HZT10.out)
              rw [HTLE.out] at HTR
              clear b10 y0' y1' z0' z1'
              go_wp2_with fail
              refine HTR.out.mono ?_
              rintro e w11 ⟨rfl, b11⟩
              have HD11 := hidK (HSO.out w11 (HW10.out.trans (b11.mono HW10.out.size))).1
              clear b11
              subst hjz
              go_wp2_with fail
              go_ret
              exact ⟨rfl, HD11.out⟩
end Go.Proofs.Ytnjpjieedgmffaa.slf
