/- Contracts over this seat's translation: the document's Back, at an order that is right. -/
import Derived.Test.YtgadjgnmhldfmaaDoorMrgRef
import Derived.Test.YtgadjgnmhldfmaaDoorMeeRef1
namespace Go.Proofs.YtgadjgnmhldfmaaDoor.mrg
open Go.RowKit Go.Proofs.YtgadjgnmhldfmaaDoor.mee
open Go.Proofs.YtgadjgnmhldfmaaDoor.spn (keeps bcell)
open Go.Proofs.YtgadjgnmhldfmaaDoor.ord (O oV chk mB bal prB ref_may ref_price ref_side)

set_option maxHeartbeats 1000000 in
theorem rback_gone (a b c d p q s t g : Int) (v : Value) (w : World) (hg : ¬ (0 ≤ g ∧ g ≤ q)) :
    Calls Tryd.prog 8 #[.agg #[.int .i64 a, .int .i64 b, .int .i64 c, .int .i64 d, .int .i64 p, .int .i64 q, .int .i64 s, .int .i64 t], v, .int .i64 g] w fun e w' => e = .returned (.tuple #[.int .i64 0, .int .i64 0, .int .i64 1]) ∧ Below w.heap.size w w' := by
  have hA : Below w.heap.size w (w.alloc (.cells #[.int .i64 a, .int .i64 b, .int .i64 c, .int .i64 d, .int .i64 p, .int .i64 q, .int .i64 s, .int .i64 t] 23)) := (Below.refl _ _).alloc (Nat.le_refl _) _
  by_cases h1 : g < 0
  · go_enter Tryd.func8, Tryd.ntmps8
    go_wp2_with fail
    go_ret3
    exact ⟨rfl, hA⟩
  · have h2 : q < g := by omega
    have h3 : decide (g < 0) = false := by simp [h1]
    have h4 : decide (q < g) = true := by simp [h2]
    clear hg
    go_enter Tryd.func8, Tryd.ntmps8
    go_wp2_with fail
    go_ret3
    exact ⟨rfl, hA⟩

theorem prod_wrap2 {r x y : Int} (c : Int) (h : wrap64 (r - x) = r - x ∧ wrap64 ((r - x) * y) = (r - x) * y) : wrap64 (c + wrap64 (wrap64 (r - x) * y)) = wrap64 (c + (r - x) * y) := by
  rw [h.1, h.2]
/-- What the document answers behind its loop. -/
def rbV (e c st : Int) : Value := if e = 0 then .tuple #[.int .i64 c, .int .i64 st, .int .i64 0] else .tuple #[.int .i64 0, .int .i64 0, .int .i64 e]
theorem ct_price {o : O} {x : T} (h : prB x.price = false) : ctE o x = 1 := by unfold ctE; rw [h]; rfl
theorem ct_qty {o : O} {x : T} (h : qtB x.qty = false) : ctE o x = 1 := by unfold ctE; rw [h, Bool.and_false]; rfl
theorem ct_else {o : O} {x : T} (h1 : prB x.price = true) (h2 : qtB x.qty = true) : ctE o x = if x.taker = o.id ∧ mB o x.price = true then 0 else 3 := by unfold ctE; rw [h1, h2]; rfl

set_option maxRecDepth 100000 in
set_option maxHeartbeats 4000000 in
theorem rback_loop (a b c d p q s t g : Int) (v : Value) (ts : List T) (w : World) (hc : c = 1 ∨ c = 2) (hg1 : 0 ≤ g) (hg2 : g ≤ q) (hL : TL w v ts) (hO : 0 ≤ resv ⟨a, b, c, d, p, q, s, t⟩ ∧ resv ⟨a, b, c, d, p, q, s, t⟩ ≤ 10000) :
    Calls Tryd.prog 8 #[.agg #[.int .i64 a, .int .i64 b, .int .i64 c, .int .i64 d, .int .i64 p, .int .i64 q, .int .i64 s, .int .i64 t], v, .int .i64 g] w fun e w' => e = .returned (rbV (bkE ⟨a, b, c, d, p, q, s, t⟩ ts) (bkC ⟨a, b, c, d, p, q, s, t⟩ (putC c (resv ⟨a, b, c, d, p, q, s, t⟩) g) ts) (putS c g)) ∧ Below w.heap.size w w' := by
  have HOS := hidM hO
  have HMY : Hid (∀ x V W, Below V.heap.size V W → Calls Tryd.prog 19 #[.agg #[.int .i64 a, .int .i64 b, .int .i64 c, .int .i64 d, .int .i64 p, .int .i64 q, .int .i64 s, .int .i64 t], .int .i64 x] W fun e w' => e = .returned (.bool (mB ⟨a, b, c, d, p, q, s, t⟩ x)) ∧ Below V.heap.size V w') := fun x V W h => (ref_may a b c d p q s t x W hc).mono fun _ _ h' => ⟨h'.1, h.trans (h'.2.mono h.size)⟩
  have HBE : Hid (∀ (kk : Nat), kk < ts.length → bkE ⟨a, b, c, d, p, q, s, t⟩ (ts.drop kk) = if ctE ⟨a, b, c, d, p, q, s, t⟩ ts[kk]! = 0 then bkE ⟨a, b, c, d, p, q, s, t⟩ (ts.drop (kk + 1)) else ctE ⟨a, b, c, d, p, q, s, t⟩ ts[kk]!) := fun kk h => by rw [drop_at ts kk h]; rfl
  have HBC : Hid (∀ (kk : Nat) (cc : Int), kk < ts.length → bkC ⟨a, b, c, d, p, q, s, t⟩ cc (ts.drop kk) = bkC ⟨a, b, c, d, p, q, s, t⟩ (if c = 1 then wrap64 (cc + (resv ⟨a, b, c, d, p, q, s, t⟩ - (ts[kk]!).price) * (ts[kk]!).qty) else cc) (ts.drop (kk + 1))) := fun kk cc h => by rw [drop_at ts kk h]; rfl
  have HC := hidM hc
  have HTL := hidM hL
  obtain ⟨tq, tc, hv, hlen⟩ := hL.form
  subst hv
  have HLN := hidM hlen
  obtain ⟨BE, hBE⟩ : ∃ x, bkE ⟨a, b, c, d, p, q, s, t⟩ ts = x := ⟨_, rfl⟩
  obtain ⟨BC, hBC⟩ : ∃ x, bkC ⟨a, b, c, d, p, q, s, t⟩ (putC c (resv ⟨a, b, c, d, p, q, s, t⟩) g) ts = x := ⟨_, rfl⟩
  have H0 : Hid (BE = bkE ⟨a, b, c, d, p, q, s, t⟩ (ts.drop 0) ∧ BC = bkC ⟨a, b, c, d, p, q, s, t⟩ (putC c (resv ⟨a, b, c, d, p, q, s, t⟩) g) (ts.drop 0)) := ⟨hBE.symm, hBC.symm⟩
  rw [hBE, hBC]
  have HRV : Hid (resv ⟨a, b, c, d, p, q, s, t⟩ = if d = 2 then 10000 else p) := rfl
  have HPC : Hid (∀ rv, putC c rv g = if c = 1 then wrap64 (rv * g) else 0) := fun rv => rfl
  have HPS : Hid (putS c g = if c = 1 then 0 else g) := rfl
  have hg3 : ¬ g < 0 := by omega
  have hg4 : ¬ q < g := by omega
  have hg5 : decide (g < 0) = false := by simp [hg3]
  have hg6 : decide (q < g) = false := by simp [hg4]
  clear hBE hBC hL hlen hO hg1 hg2 hg3 hg4 hc
  generalize htl : ts.length = n at *
  have HN := hidM htl
  clear htl
  generalize resv ⟨a, b, c, d, p, q, s, t⟩ = rv at *
  obtain ⟨V, hV⟩ : ∃ V, V = w.alloc (.cells #[.int .i64 a, .int .i64 b, .int .i64 c, .int .i64 d, .int .i64 p, .int .i64 q, .int .i64 s, .int .i64 t] 23) := ⟨_, rfl⟩
  have hA : Below w.heap.size w V := by rw [hV]; exact (Below.refl _ _).alloc (Nat.le_refl _) _
  have hR : V.heap[w.heap.size]? = some (.cells #[.int .i64 a, .int .i64 b, .int .i64 c, .int .i64 d, .int .i64 p, .int .i64 q, .int .i64 s, .int .i64 t] 23 (0, 0)) := by rw [hV]; exact heap_alloc_new w _
  have cel : ∀ i, V.cell? ⟨w.heap.size, i, none⟩ = (#[.int .i64 a, .int .i64 b, .int .i64 c, .int .i64 d, .int .i64 p, .int .i64 q, .int .i64 s, .int .i64 t] : Array Value)[i]? := fun i => by simp [World.cell?, hR]
  obtain ⟨X, hX⟩ : ∃ x, x = w.heap.size := ⟨_, rfl⟩
  rw [← hX] at cel
  have HSO : Hid (∀ W, Below V.heap.size V W → (Below V.heap.size V W ∧ W.cell? ⟨X, 0, none⟩ = some (.int .i64 a) ∧ W.cell? ⟨X, 1, none⟩ = some (.int .i64 b) ∧ W.cell? ⟨X, 2, none⟩ = some (.int .i64 c) ∧ W.cell? ⟨X, 3, none⟩ = some (.int .i64 d) ∧ W.cell? ⟨X, 4, none⟩ = some (.int .i64 p) ∧ W.cell? ⟨X, 5, none⟩ = some (.int .i64 q) ∧ W.cell? ⟨X, 6, none⟩ = some (.int .i64 s) ∧ W.cell? ⟨X, 7, none⟩ = some (.int .i64 t))) := fun W hW => ⟨hW, keeps hW (cel 0), keeps hW (cel 1), keeps hW (cel 2), keeps hW (cel 3), keeps hW (cel 4), keeps hW (cel 5), keeps hW (cel 6), keeps hW (cel 7)⟩
  have HTW := hidM (HTL.out.below hA)
  have HA := hidM hA
  clear HTL hR hA cel
  go_enter Tryd.func8, Tryd.ntmps8
  go_upto_if 27 with fail
  rw [← hV, ← hX]
  clear hV hX hg5 hg6
  obtain ⟨d00, d0, d1, d2, d3, d4, d5, d6, d7⟩ := HSO.out V (Below.refl _ _)
  go_cut [9] from 25 to 27 (fun s9 wx => s9 = .int .i64 rv ∧ V = wx)
  case first =>
    by_cases hd : d = 2
    · have hr : rv = 10000 := by rw [HRV.out, if_pos hd]
      subst hd hr
      go_wp2_with fail
      go_meet
      exact ⟨rfl, rfl⟩
    · have hr : rv = p := by rw [HRV.out, if_neg hd]
      have hd1 : (d == 2) = false := by simp [hd]
      subst hr
      go_wp2_with fail
      go_meet
      exact ⟨rfl, rfl⟩
  case rest =>
  obtain ⟨rfl, rfl⟩ := hcut
  go_upto_if 33 with fail
  go_cut [10, 11] from 31 to 34 (fun s10 s11 wx => s10 = .int .i64 (putC c rv g) ∧ s11 = .int .i64 (putS c g) ∧ V = wx)
  case first =>
    rcases HC.out with rfl | rfl
    · go_wp2_with fail
      go_meet
      exact ⟨rfl, rfl, rfl⟩
    · go_wp2_with fail
      go_meet
      exact ⟨rfl, rfl, rfl⟩
  case rest =>
  obtain ⟨rfl, rfl, rfl⟩ := hcut
  clear d00 d0 d1 d2 d3 d4 d5 d6 d7 HPC HPS HRV
  go_wp2_with fail
  go_loopg [10, 12, 13, 14] n (fun gg s10 s12 _ _ wr => ∃ (kk : Nat) (cc : Int), kk ≤ n ∧ n - kk ≤ gg ∧ s12 = .int .i64 kk ∧ s10 = .int .i64 cc ∧ Aside (Below V.heap.size V wr ∧ BE = bkE ⟨a, b, c, d, p, q, s, t⟩ (ts.drop kk) ∧ BC = bkC ⟨a, b, c, d, p, q, s, t⟩ cc (ts.drop kk)))
  case atStart => exact ⟨0, putC c rv g, Nat.zero_le _, by omega, rfl, rfl, Below.refl _ _, H0.out⟩
  case round =>
    obtain ⟨kk, cc, hkk, hg, rfl, rfl, HI0⟩ := hrel
    have HI := hidM HI0.out
    clear HI0 H0
    by_cases hlt : kk < n
    · have hltz : (kk : Int) < (n : Int) := by omega
      have hin1 : ¬ ((kk : Int) < 0) := Int.not_lt.2 (Int.natCast_nonneg _)
      have hlz : kk < ts.length := by rw [HN.out]; exact hlt
      obtain ⟨G, off, rfl, hG, hx⟩ := HTW.out.at hlz
      have HBE1 := hidM (HBE.out kk (by rw [HN.out] at hlz; exact hlz))
      have HBC1 := hidM (HBC.out kk cc (by rw [HN.out] at hlz; exact hlz))
      have HCP := hidM (fun h => ct_price (o := ⟨a, b, c, d, p, q, s, t⟩) (x := ts[kk]!) h)
      have HCQ := hidM (fun h => ct_qty (o := ⟨a, b, c, d, p, q, s, t⟩) (x := ts[kk]!) h)
      have HCE := hidM (fun h1 h2 => ct_else (o := ⟨a, b, c, d, p, q, s, t⟩) (x := ts[kk]!) h1 h2)
      have HCS := hidM (fun h => ct_small (o := ⟨a, b, c, d, p, q, s, t⟩) (x := ts[kk]!) h)
      rcases hxx : ts[kk]! with ⟨t1, t2, t3, t4, t5, t6⟩
      rw [hxx] at hx HBE1 HBC1 HCP HCQ HCE HCS
      simp only at HBC1 HCP HCQ HCE HCS
      obtain ⟨k, hk0⟩ : ∃ k, ctE ⟨a, b, c, d, p, q, s, t⟩ ⟨t1, t2, t3, t4, t5, t6⟩ = k := ⟨_, rfl⟩
      rw [hk0] at HBE1 HCP HCQ HCE HCS
      have HX : Hid (∀ W, Below V.heap.size V W → W.cell? ⟨G, off + kk * 6 + 1, none⟩ = some (.int .i64 t2) ∧ W.cell? ⟨G, off + kk * 6 + 4, none⟩ = some (.int .i64 t5) ∧ W.cell? ⟨G, off + kk * 6 + 5, none⟩ = some (.int .i64 t6)) := fun W hW => ⟨keeps hW (hx 1 _ rfl), keeps hW (hx 4 _ rfl), keeps hW (hx 5 _ rfl)⟩
      have HM : Hid (kk < n ∧ n - kk ≤ gk) := ⟨hlt, hg⟩
      have HEI := hidM (stepW kk (by have := HLN.out; omega))
      clear HBE HBC hx hxx hG hkk hg hlz hlt HTW hk0
      obtain ⟨x1, x4, x5⟩ := HX.out wr HI.out.1
      go_wp2_with fail
      refine (ref_price t5 _).mono ?_
      rintro e W1 ⟨rfl, hW1⟩
      have hW2 := hW1.symm
      subst hW2
      clear hW1
      cases hp : prB t5
      · have hk : k = 1 := HCP.out hp
        have hE : BE = 1 := by rw [HI.out.2.1, HBE1.out, if_neg (by omega), hk]
        go_wp2_with fail
        go_ret3
        refine ⟨?_, HA.out.trans (HI.out.1.mono HA.out.size)⟩
        rw [hE]
        rfl
      cases hqt : qtB t6
      · have hk : k = 1 := HCQ.out hqt
        have hE : BE = 1 := by rw [HI.out.2.1, HBE1.out, if_neg (by omega), hk]
        have hq0 : t6 < 1 ∨ 10000 < t6 := by
          simp [qtB] at hqt
          omega
        rcases hq0 with hq1 | hq1
        · have hq2 : decide (t6 < 1) = true := by simp [hq1]
          go_wp2_with fail
          go_ret3
          refine ⟨?_, HA.out.trans (HI.out.1.mono HA.out.size)⟩
          rw [hE]
          rfl
        · have hq2 : decide (t6 < 1) = false := by simp; omega
          have hq3 : decide (10000 < t6) = true := by simp [hq1]
          go_wp2_with fail
          go_ret3
          refine ⟨?_, HA.out.trans (HI.out.1.mono HA.out.size)⟩
          rw [hE]
          rfl
      have hq0 : 1 ≤ t6 ∧ t6 ≤ 10000 := by simpa [qtB] using hqt
      have hq2 : decide (t6 < 1) = false := by simp; omega
      have hq3 : decide (10000 < t6) = false := by simp; omega
      have HK := hidM (HCE.out hp hqt)
      clear hq0 HCP HCQ HCE hqt hp
      go_upto_region 17 with fail
      clear x1 x4 x5 hq2 hq3
      have SO : Hid (∀ W, Below wr.heap.size wr W → (Below wr.heap.size wr W ∧ W.cell? ⟨X, 0, none⟩ = some (.int .i64 a) ∧ W.cell? ⟨X, 1, none⟩ = some (.int .i64 b) ∧ W.cell? ⟨X, 2, none⟩ = some (.int .i64 c) ∧ W.cell? ⟨X, 3, none⟩ = some (.int .i64 d) ∧ W.cell? ⟨X, 4, none⟩ = some (.int .i64 p) ∧ W.cell? ⟨X, 5, none⟩ = some (.int .i64 q) ∧ W.cell? ⟨X, 6, none⟩ = some (.int .i64 s) ∧ W.cell? ⟨X, 7, none⟩ = some (.int .i64 t) ∧ W.cell? ⟨G, off + kk * 6 + 4, none⟩ = some (.int .i64 t5))) := fun W hW => by
        have h := HI.out.1.trans (hW.mono HI.out.1.size)
        obtain ⟨-, d0, d1, d2, d3, d4, d5, d6, d7⟩ := HSO.out W h
        exact ⟨hW, d0, d1, d2, d3, d4, d5, d6, d7, (HX.out W h).2.1⟩
      obtain ⟨d00, d0, d1, d2, d3, d4, d5, d6, d7, x4⟩ := SO.out wr (Below.refl _ _)
      go_region_held3 (fun W => Below wr.heap.size wr W ∧ W.cell? ⟨X, 0, none⟩ = some (.int .i64 a) ∧ W.cell? ⟨X, 1, none⟩ = some (.int .i64 b) ∧ W.cell? ⟨X, 2, none⟩ = some (.int .i64 c) ∧ W.cell? ⟨X, 3, none⟩ = some (.int .i64 d) ∧ W.cell? ⟨X, 4, none⟩ = some (.int .i64 p) ∧ W.cell? ⟨X, 5, none⟩ = some (.int .i64 q) ∧ W.cell? ⟨X, 6, none⟩ = some (.int .i64 s) ∧ W.cell? ⟨X, 7, none⟩ = some (.int .i64 t) ∧ W.cell? ⟨G, off + kk * 6 + 4, none⟩ = some (.int .i64 t5))
        ((refine SO.out _ ?_; (repeat' (first | with_reducible assumption | with_reducible refine bal ?_ _ | with_reducible refine Below.drew ?_ | with_reducible exact Below.refl _ _ | with_reducible exact Nat.le_refl _ | with_reducible exact Below.size (by with_reducible assumption) | with_reducible refine Nat.le_succ_of_le ?_))))
        (first | (go_at_call 19; refine (HMY.out t5 wr _ ?_).mono ?_; (repeat' (first | with_reducible assumption | with_reducible refine bal ?_ _ | with_reducible refine Below.drew ?_ | with_reducible exact Below.refl _ _ | with_reducible exact Nat.le_refl _ | with_reducible exact Below.size (by with_reducible assumption) | with_reducible refine Nat.le_succ_of_le ?_)); rintro x W6 ⟨rfl, hbn⟩))
      have HB6 : Hid (Below V.heap.size V W6) := HI.out.1.trans (hbn.mono HI.out.1.size)
      clear SO d00 d0 d1 d2 d3 d4 d5 d6 d7 x4 hbn
      obtain ⟨d00, d0, d1, d2, d3, d4, d5, d6, d7⟩ := HSO.out W6 HB6.out
      obtain ⟨x1, x4, x5⟩ := HX.out W6 HB6.out
      clear d00
      generalize mB ⟨a, b, c, d, p, q, s, t⟩ t5 = m at *
      by_cases hta : t2 = a
      rotate_left
      · have hk : k = 3 := by rw [HK.out, if_neg (fun h => hta h.1)]
        have hE : BE = 3 := by rw [HI.out.2.1, HBE1.out, if_neg (by omega), hk]
        have ht1 : (t2 != a) = true := by simp [hta]
        go_upto_region 18 with fail
        go_quiet (fail)
        go_wp2_with fail
        go_ret3
        refine ⟨?_, belD (HA.out.trans (HB6.out.mono HA.out.size)) _⟩
        rw [hE]
        rfl
      have ht1 : (t2 != a) = false := by simp [hta]
      cases m
      · have hk : k = 3 := by rw [HK.out, if_neg (fun h => by simpa using h.2)]
        have hE : BE = 3 := by rw [HI.out.2.1, HBE1.out, if_neg (by omega), hk]
        go_upto_region 18 with fail
        go_quiet (fail)
        go_wp2_with fail
        go_ret3
        refine ⟨?_, belD (HA.out.trans (HB6.out.mono HA.out.size)) _⟩
        rw [hE]
        rfl
      have hk : k = 0 := by rw [HK.out, if_pos ⟨hta, rfl⟩]
      have HE : Hid (BE = bkE ⟨a, b, c, d, p, q, s, t⟩ (ts.drop (kk + 1))) := by show _ = _; rw [HI.out.2.1, HBE1.out, if_pos hk]
      have HPR := hidM (prod_small HOS.out ⟨(HCS.out hk).1, (HCS.out hk).2.1⟩ ⟨(HCS.out hk).2.2.1, (HCS.out hk).2.2.2.1⟩)
      clear hk HCS HBE1 HK hta
      go_upto_region 18 with fail
      go_quiet (fail)
      clear ht1 d0 d1 d2 d3 d4 d5 d6 d7 x1 x4 x5
      go_upto_region 20 with fail
      have HB7 := hidM (belD HB6.out nq)
      clear HB6
      generalize W6.drewN nq = W7 at *
      obtain ⟨d00, d0, d1, d2, d3, d4, d5, d6, d7⟩ := HSO.out W7 HB7.out
      obtain ⟨x1, x4, x5⟩ := HX.out W7 HB7.out
      clear d00
      rcases HC.out with rfl | rfl
      · have HCC : Hid (BC = bkC ⟨a, b, 1, d, p, q, s, t⟩ (wrap64 (cc + (rv - t5) * t6)) (ts.drop (kk + 1))) := by show _ = _; rw [HI.out.2.2, HBC1.out, if_pos rfl]
        go_upto_region 21 with fail
        clear d0 d1 d2 d3 d4 d5 d6 d7 x1
        go_quiet (fail)
        clear x4 x5
        have ei := HEI.out
        go_wp2_with fail
        go_roundg (n - (kk + 1))
        case measure => have := HM.out; omega
        case rel => exact ⟨kk + 1, wrap64 (cc + (rv - t5) * t6), HM.out.1, Nat.le_refl _, by go_num, congrArg (Value.int .i64) (prod_wrap2 cc HPR.out), belD HB7.out _, HE.out, HCC.out⟩
      · have HCC : Hid (BC = bkC ⟨a, b, 2, d, p, q, s, t⟩ cc (ts.drop (kk + 1))) := by show _ = _; rw [HI.out.2.2, HBC1.out, if_neg (by decide)]
        have ei := HEI.out
        clear x1 x4 x5
        go_wp2_with fail
        go_roundg (n - (kk + 1))
        case measure => have := HM.out; omega
        case rel => exact ⟨kk + 1, cc, HM.out.1, Nat.le_refl _, by go_num, rfl, HB7.out, HE.out, HCC.out⟩
    · have hltz : ¬ (kk : Int) < (n : Int) := by omega
      have hdr : ts.drop kk = [] := List.drop_eq_nil_of_le (by rw [HN.out]; omega)
      have hE : BE = 0 := by rw [HI.out.2.1, hdr]; rfl
      have hC : BC = cc := by rw [HI.out.2.2, hdr]; rfl
      have hB := HI.out.1
      clear HBE HBC HTW HI hdr
      subst hE hC
      go_wp2_with fail
      go_ret3
      exact ⟨rfl, HA.out.trans (hB.mono HA.out.size)⟩
/-- The document's Back, at every order that is right and every trades. -/
theorem rback_any (a b c d p q s t : Int) (v : Value) (ts : List T) (g : Int) (w : World) (h0 : chk ⟨a, b, c, d, p, q, s, t⟩ = 0) (hL : TL w v ts) :
    Calls Tryd.prog 8 #[.agg #[.int .i64 a, .int .i64 b, .int .i64 c, .int .i64 d, .int .i64 p, .int .i64 q, .int .i64 s, .int .i64 t], v, .int .i64 g] w fun e w' => e = .returned (.tuple #[.int .i64 (backC ⟨a, b, c, d, p, q, s, t⟩ ts g), .int .i64 (backS ⟨a, b, c, d, p, q, s, t⟩ ts g), .int .i64 (backE ⟨a, b, c, d, p, q, s, t⟩ ts g)]) ∧ Below w.heap.size w w' := by
  obtain ⟨o1, o2, -, -, o5⟩ := ord_small h0
  by_cases hg : 0 ≤ g ∧ g ≤ q
  · have e0 : backE ⟨a, b, c, d, p, q, s, t⟩ ts g = bkE ⟨a, b, c, d, p, q, s, t⟩ ts := by unfold backE; rw [if_pos h0, if_pos hg]
    unfold backC backS
    rw [e0]
    refine (rback_loop a b c d p q s t g v ts w o5 hg.1 hg.2 hL ⟨o1, o2⟩).mono ?_
    rintro e w' ⟨rfl, hb⟩
    refine ⟨?_, hb⟩
    unfold rbV
    by_cases hE : bkE ⟨a, b, c, d, p, q, s, t⟩ ts = 0
    · rw [if_pos hE, if_pos hE, if_pos hE, hE]
    · rw [if_neg hE, if_neg hE, if_neg hE]
  · have e0 : backE ⟨a, b, c, d, p, q, s, t⟩ ts g = 1 := by unfold backE; rw [if_pos h0, if_neg hg]
    unfold backC backS
    rw [e0]
    exact rback_gone a b c d p q s t g v w hg
end Go.Proofs.YtgadjgnmhldfmaaDoor.mrg
