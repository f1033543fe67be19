/- Contracts over this seat's translation: self.facing, self.shown, self.ahead. -/
import Derived.Test.YtnjpjieedgmffaaMeeOwn
import Derived.Test.YtnjpjieedgmffaaQueArg
import Derived.Test.YtnjpjieedgmffaaQueChk
import Derived.Test.YtnjpjieedgmffaaBokRests
import Derived.Deep.RegionHeld3
namespace Go.Proofs.Ytnjpjieedgmffaa.slf
open Go.RowKit Go.Proofs.Ytnjpjieedgmffaa.spn Go.Proofs.Ytnjpjieedgmffaa.que Go.Proofs.Ytnjpjieedgmffaa.sid Go.Proofs.Ytnjpjieedgmffaa.bok Go.Proofs.Ytnjpjieedgmffaa.mee
open Go.Proofs.Ytnjpjieedgmffaa.ord (O oV mB mE chk meets_any)

theorem hidS {P : Prop} (h : P) : Hid P := h
theorem facing_any (s : Int) (q1 q2 xq : Option Addr) (n1 n2 c1 c2 xn xc : Nat) (w : World) (hx : (if s = 1 then Value.slice q2 n2 c2 else .slice q1 n1 c1) = .slice xq xn xc) :
    Calls Try.prog 36 #[.agg #[.slice q1 n1 c1, .slice q2 n2 c2], .int .i64 s] w fun e w' => e = .returned (.slice xq xn xc) ∧ Below w.heap.size w w' := by
  rw [← hx]
  clear hx
  by_cases hs : s = 1
  · rw [if_pos hs]
    subst hs
    go_enter Try.func36, Try.ntmps36
    go_wp2
    go_ret
    exact ⟨rfl, (Below.refl _ _).alloc (Nat.le_refl _) _⟩
  · rw [if_neg hs]
    have h1 : (s == 1) = false := by simpa using hs
    go_enter Try.func36, Try.ntmps36
    go_wp2
    go_ret
    exact ⟨rfl, (Below.refl _ _).alloc (Nat.le_refl _) _⟩
theorem shq_take (zs : List R) (k : Nat) (hk : k < zs.length) : shq (zs.take (k + 1)) = shq (zs.take k) + zs[k]!.qty := by
  rw [take_at hk, shq_append]; simp only [shq]; omega

set_option maxRecDepth 100000 in
set_option maxHeartbeats 1000000 in
theorem sshown_any (b o n c : Nat) (zs : List R) (w : World) (hb : b < w.heap.size) (hl : Lies w b o zs) (hn : zs.length = n) (hG : ∀ r ∈ zs, rchk r = 0) (h60 : n ≤ 60) :
    Calls Try.prog 40 #[.slice (some ⟨b, o, none⟩) n c] w fun e w' => e = .returned (.int .i64 (shq zs)) ∧ Below w.heap.size w w' := by
  have HG : Hid (∀ r ∈ zs, rchk r = 0) := hG
  have HL : Hid (Lies w b o zs ∧ b < w.heap.size) := ⟨hl, hb⟩
  generalize hT : shq zs = T
  have HT : Hid (shq zs = T) := hT
  have HN : Hid (zs.length = n) := hn
  clear hT hl hG hn hb
  go_enter Try.func40, Try.ntmps40
  go_wp2_with fail
  go_loopg [3, 5, 8] n (fun gg s3 _ s8 wr => ∃ kk : Nat, kk ≤ n ∧ n - kk ≤ gg ∧ s8 = .int .i64 kk ∧ s3 = .int .i64 (shq (zs.take kk)) ∧ Aside (Below w.heap.size w wr))
  case atStart => exact ⟨0, Nat.zero_le _, by omega, rfl, rfl, Below.refl _ _⟩
  case round =>
    obtain ⟨kk, hkk, hg, rfl, rfl, BW⟩ := hrel
    have hA : Hid (0 ≤ shq (zs.take kk) ∧ shq (zs.take kk) ≤ 10000 * (kk : Int)) := by
      have := shq_le (zs.take kk) (fun r hr => HG.out r (List.mem_of_mem_take hr))
      rw [List.length_take, HN.out, Nat.min_eq_left hkk] at this
      exact this
    by_cases hlt : kk < n
    · have hltz : (kk : Int) < (n : Int) := by omega
      have hlz : kk < zs.length := by rw [HN.out]; exact hlt
      have LW := HL.out.1.below HL.out.2 BW.out
      obtain ⟨r, hr⟩ : ∃ r, zs[kk]! = r := ⟨_, rfl⟩
      obtain ⟨r1, r2, r3, r4, r5⟩ := r
      obtain ⟨c0, c1, c2, c3, c4⟩ := lies_at LW hlz hr
      have hq := rchk_zero (HG.out zs[kk]! (by rw [getE _ _ hlz]; exact List.getElem_mem hlz))
      rw [hr] at hq
      obtain ⟨⟨q1, q2⟩, -⟩ := hq
      simp only [] at q1 q2
      have hTT : Hid (shq (zs.take (kk + 1)) = shq (zs.take kk) + r3) := by
        have := shq_take zs kk hlz
        rw [hr] at this
        exact this
      obtain ⟨t1, t2⟩ := hA.out
      clear hr LW hA
      have hin1 : ¬ ((kk : Int) < 0) := by omega
      have e2 : wrap64 (shq (zs.take kk) + r3) = shq (zs.take kk) + r3 := by unfold wrap64; omega
      go_wp2_with fail
      go_roundg (n - (kk + 1))
      case measure => omega
      case rel => exact ⟨kk + 1, by omega, by omega, by go_num, by rw [hTT.out], BW.out.alloc BW.out.size _⟩
    · have hltz : ¬ (kk : Int) < (n : Int) := by omega
      have hk : kk = n := by omega
      subst hk
      have hT2 : shq (zs.take kk) = T := by rw [← HT.out, List.take_of_length_le (by rw [HN.out]; exact Nat.le_refl _)]
      rw [hT2]
      go_wp2_with fail
      go_ret
      exact ⟨rfl, BW.out⟩

theorem idxFromW (u : Int) (x : R) (zs : List R) : ∀ i, Lib.idxByFrom (fun _ y => decide (y.who = u)) x zs i = if idxW u zs < 0 then -1 else (i : Int) + idxW u zs := by
  induction zs with
  | nil => intro i; rfl
  | cons r t ih =>
    intro i
    have := idxW_ge u t
    show (if decide (r.who = u) = true then (i : Int) else Lib.idxByFrom (fun _ y => decide (y.who = u)) x t (i + 1)) = _
    rw [ih, idxW_cons]
    by_cases h : r.who = u
    · rw [if_pos (decide_eq_true h), if_pos h, if_neg (by omega), Int.add_zero]
    · rw [if_neg (by simpa using h), if_neg h]
      by_cases h2 : idxW u t < 0
      · rw [if_pos h2, if_pos h2, if_pos (by omega)]
      · rw [if_neg h2, if_neg h2, if_neg (by omega)]; omega
theorem idxByW_is (u : Int) (x : R) (zs : List R) : Lib.idxBy (fun _ y => decide (y.who = u)) zs x = idxW u zs := by
  have := idxW_ge u zs
  unfold Lib.idxBy
  rw [idxFromW]
  split <;> omega
theorem own_pred (u : Int) (B : Nat) (w : World) (hB : B < w.heap.size) (hc : w.cell? ⟨B, 1, none⟩ = some (.int .i64 u)) :
    PredBelow Try.prog 39 #[.pointer (some ⟨B, 0, none⟩)] (fun x => .agg (rV x).toArray) (fun x => decide (x.who = u)) w := by
  intro W x hb
  obtain ⟨a, b, c, d, e⟩ := x
  show Calls Try.prog 39 #[.agg #[.int .i64 a, .int .i64 b, .int .i64 c, .int .i64 d, .int .i64 e], .pointer (some ⟨B, 0, none⟩)] W _
  have hc2 := keeps hb hc
  have hz : B < W.heap.size := Nat.lt_of_lt_of_le hB hb.size
  go_enter Try.func39, Try.ntmps39
  go_wp2
  go_ret
  exact ⟨rfl, hb.alloc hb.size _⟩
theorem ownix_any (u : Int) (B b o c : Nat) (zs : List R) (w : World) (hB : B < w.heap.size) (hc : w.cell? ⟨B, 1, none⟩ = some (.int .i64 u)) (hb : b < w.heap.size) (hn : zs.length ≤ 9223372036854775807) (hl : Lies w b o zs) :
    Calls Try.prog 38 #[.slice (some ⟨b, o, none⟩) zs.length c, .func (.func 39) #[] #[.pointer (some ⟨B, 0, none⟩)]] w fun e w' => e = .returned (.int .i64 (idxW u zs)) ∧ Below w.heap.size w w' := by
  have eg : ∀ args w, (callFunc 39 args).run Try.prog w = .ok (.enter 39 args) w := enters_of Try.func39 (by kernel_rfl) rfl
  have hcon := AnyQ.slices_IndexFunc Try.lq6 5 Try.isAgg28 Try.sizeOf28 rV (fun x => rfl) (fun x => decide (x.who = u)) 39 #[.pointer (some ⟨B, 0, none⟩)] eg b o zs.length c zs
    w (own_pred u B _ hB hc) (Nat.le_refl _) hn hb hl
  change Calls Try.prog 38 _ _ _ at hcon
  rw [List.take_length, idxByW_is] at hcon
  exact hcon

theorem drop_atL {ls : List L} {k : Nat} (hk : k < ls.length) : ls.drop k = ls[k]! :: ls.drop (k + 1) := by
  rw [List.drop_eq_getElem_cons hk, getE _ _ hk]
/-- What lies at a level that has rests, with its cap. -/
theorem ls_atC {w : World} {q : Option Addr} {n c : Nat} {ls : List L} (h : LS w (.slice q n c) ls) (hne : ∀ l ∈ ls, l.rests ≠ []) {kk : Nat} (hk : kk < ls.length) : ∃ b o rb ro rc, q = some ⟨b, o, none⟩ ∧ b < w.heap.size ∧ w.cell? ⟨b, o + kk * 2, none⟩ = some (.int .i64 ls[kk]!.price) ∧ w.cell? ⟨b, o + kk * 2 + 1, none⟩ = some (.slice (some ⟨rb, ro, none⟩) ls[kk]!.rests.length rc) ∧ rb < w.heap.size ∧ Lies w rb ro ls[kk]!.rests ∧ ls[kk]!.rests.length ≤ rc ∧ rc ≤ 9223372036854775807 := by
  rcases h with ⟨-, e⟩ | ⟨b, o, c', e, -, -, hb, hl⟩
  · rw [e] at hk; simp at hk
  · cases e
    obtain ⟨h0, v, h1, hs⟩ := hl kk hk
    have hm : ls[kk]! ∈ ls := by rw [getE _ _ hk]; exact List.getElem_mem hk
    have hz := hne _ hm
    rcases hs.sl hz with ⟨-, e⟩ | ⟨rb, ro, rc, rfl, h2, h3, h4, h5⟩
    · exact absurd e hz
    · exact ⟨b, o, rb, ro, rc, rfl, hb, h0, h1, h4, h5, h2, h3⟩
theorem balS {n : Nat} {w V : World} (h : Below n w V) (hn : n ≤ V.heap.size) (x : Obj) : Below n w (V.alloc x) := h.alloc hn _

set_option maxRecDepth 100000 in
set_option maxHeartbeats 4000000 in
theorem ahead_any (q1 q2 xq : Option Addr) (n1 n2 c1 c2 xn xc : Nat) (X : List L) (a b c d p q s t : Int) (w : World) (hx : (if c = 1 then Value.slice q2 n2 c2 else .slice q1 n1 c1) = .slice xq xn xc) (hX : LS w (.slice xq xn xc) X) (hl : ∀ l ∈ X, lchk l = 0) (h60 : cnt X ≤ 60) (hk : chk ⟨a, b, c, d, p, q, s, t⟩ = 0) :
    Calls Try.prog 23 #[.agg #[.slice q1 n1 c1, .slice q2 n2 c2], .agg #[.int .i64 a, .int .i64 b, .int .i64 c, .int .i64 d, .int .i64 p, .int .i64 q, .int .i64 s, .int .i64 t]] w fun e w' => e = .returned (.tuple #[.int .i64 (aheadR ⟨a, b, c, d, p, q, s, t⟩ X).1, .int .i64 (aheadR ⟨a, b, c, d, p, q, s, t⟩ X).2, .nilIface]) ∧ Below w.heap.size w w' := by
  obtain ⟨V1, hV1⟩ : ∃ V1, V1 = w.alloc (.cells #[.slice q1 n1 c1, .slice q2 n2 c2] 24) := ⟨_, rfl⟩
  have hs1 : V1.heap.size = w.heap.size + 1 := by rw [hV1]; simp
  have hb1 : Below w.heap.size w V1 := by rw [hV1]; exact (Below.refl _ _).alloc (Nat.le_refl _) _
  have hr1 : V1.heap[w.heap.size]? = some (.cells #[.slice q1 n1 c1, .slice q2 n2 c2] 24 (0, 0)) := by rw [hV1]; exact heap_alloc_new w _
  obtain ⟨V, hV⟩ : ∃ V, V = V1.alloc (.cells #[.int .i64 a, .int .i64 b, .int .i64 c, .int .i64 d, .int .i64 p, .int .i64 q, .int .i64 s, .int .i64 t] 26) := ⟨_, rfl⟩
  have hs2 : V.heap.size = w.heap.size + 2 := by rw [hV]; simp [hs1]
  have hb2 : Below V1.heap.size V1 V := by rw [hV]; exact (Below.refl _ _).alloc (Nat.le_refl _) _
  have hr2 : V.heap[w.heap.size + 1]? = some (.cells #[.int .i64 a, .int .i64 b, .int .i64 c, .int .i64 d, .int .i64 p, .int .i64 q, .int .i64 s, .int .i64 t] 26 (0, 0)) := by rw [← hs1, hV]; exact heap_alloc_new V1 _
  have hrB : V.heap[w.heap.size]? = some (.cells #[.slice q1 n1 c1, .slice q2 n2 c2] 24 (0, 0)) := by rw [hb2.block _ (by omega)]; exact hr1
  have hBV : Below w.heap.size w V := hb1.trans (hb2.mono hb1.size)
  obtain ⟨G, hG⟩ : ∃ G, G = w.heap.size := ⟨_, rfl⟩
  obtain ⟨Q, hQ⟩ : ∃ Q, Q = w.heap.size + 1 := ⟨_, rfl⟩
  have HQ : Hid (Q < V.heap.size) := by show _ < _; omega
  have HSO : Hid (∀ W, Below V.heap.size V W → Below w.heap.size w W ∧ ∀ i, W.cell? ⟨Q, i, none⟩ = (#[.int .i64 a, .int .i64 b, .int .i64 c, .int .i64 d, .int .i64 p, .int .i64 q, .int .i64 s, .int .i64 t] : Array Value)[i]?) := fun W hW =>
    ⟨hBV.trans (hW.mono hBV.size), fun i => by have h := (hW.block (w.heap.size + 1) (by omega)).trans hr2; rw [← hQ] at h; simp [World.cell?, h]⟩
  have HX : Hid (∀ W, Below V.heap.size V W → LS W (.slice xq xn xc) X) := fun W hW => hX.below (hBV.trans (hW.mono hBV.size))
  have HGD : Hid (∀ l ∈ X, lchk l = 0) := hl
  have HNE : Hid (∀ l ∈ X, l.rests ≠ []) := fun l hm => (lchk_zero (hl l hm)).2.1
  have HLE : Hid (0 ≤ (aheadR ⟨a, b, c, d, p, q, s, t⟩ X).1 ∧ (aheadR ⟨a, b, c, d, p, q, s, t⟩ X).1 ≤ 1200000) := by
    have h := ahead_le (o := ⟨a, b, c, d, p, q, s, t⟩) X hl
    exact ⟨h.1, by omega⟩
  have HXN : Hid (xn = X.length ∧ xn ≤ 60) := by
    have h1 := ls_len hX
    have h2 := len_cnt hl
    exact ⟨h1, by omega⟩
  have HFA : Hid (∀ W, Calls Try.prog 36 #[.agg #[.slice q1 n1 c1, .slice q2 n2 c2], .int .i64 c] W fun e w' => e = .returned (.slice xq xn xc) ∧ Below W.heap.size W w') := fun W => facing_any c q1 q2 xq n1 n2 c1 c2 xn xc W hx
  have HMT : Hid (∀ x M W, ord.prB x = true → mB ⟨a, b, c, d, p, q, s, t⟩ x = M → Calls Try.prog 37 #[.agg #[.int .i64 a, .int .i64 b, .int .i64 c, .int .i64 d, .int .i64 p, .int .i64 q, .int .i64 s, .int .i64 t], .int .i64 x] W fun e w' => e = .returned (.tuple #[.bool M, .nilIface]) ∧ Below W.heap.size W w') := fun x M W hp hm => by
    have h := meets_any ⟨a, b, c, d, p, q, s, t⟩ x W
    have e : mE ⟨a, b, c, d, p, q, s, t⟩ x = 0 := by unfold mE; rw [if_pos hk, hp]; rfl
    rw [e, if_pos rfl, hm] at h
    exact h
  obtain ⟨QQ, hQQ⟩ : ∃ QQ, (aheadR ⟨a, b, c, d, p, q, s, t⟩ X).1 = QQ := ⟨_, rfl⟩
  obtain ⟨WW, hWW⟩ : ∃ WW, (aheadR ⟨a, b, c, d, p, q, s, t⟩ X).2 = WW := ⟨_, rfl⟩
  have HAA : Hid ((aheadR ⟨a, b, c, d, p, q, s, t⟩ X).1 = QQ ∧ (aheadR ⟨a, b, c, d, p, q, s, t⟩ X).2 = WW) := ⟨hQQ, hWW⟩
  rw [hQQ] at HLE
  rw [hQQ, hWW]
  obtain ⟨g0, g1, -⟩ := rowTwo hrB
  rw [← hG] at g0 g1
  obtain ⟨-, cel⟩ := HSO.out V (Below.refl _ _)
  have u2 := cel 2
  simp only [List.getElem?_toArray, List.getElem?_cons_zero, List.getElem?_cons_succ] at u2
  clear cel hs1 hs2 hb1 hb2 hr1 hr2 hrB hBV hx hX hl h60 hk hQQ hWW
  go_enter Try.func23, Try.ntmps23
  go_wp2_with fail
  rw [← hV1, ← hV]
  simp only [← hQ]
  simp only [← hG]
  clear hV1 hV hG hQ
  refine (HFA.out V).mono ?_
  rintro e w1 ⟨rfl, b1⟩
  have HB1 := hidS b1
  clear b1 g0 g1 u2
  go_wp2_with fail
  go_loopg [7, 9, 10, 11, 12, 13, 19] xn (fun gg s7 _ _ _ _ _ s19 wr => ∃ (kk : Nat) (acc : Int), kk ≤ xn ∧ xn - kk ≤ gg ∧ s19 = .int .i64 kk ∧ s7 = .int .i64 acc ∧ Aside (Below V.heap.size V wr ∧ 0 ≤ acc ∧ acc + (aheadR ⟨a, b, c, d, p, q, s, t⟩ (X.drop kk)).1 = QQ ∧ (aheadR ⟨a, b, c, d, p, q, s, t⟩ (X.drop kk)).2 = WW))
  case atStart => exact ⟨0, 0, Nat.zero_le _, by omega, rfl, rfl, HB1.out, Int.le_refl _, by rw [List.drop_zero, Int.zero_add]; exact HAA.out.1, by rw [List.drop_zero]; exact HAA.out.2⟩
  case round =>
    obtain ⟨kk, acc, hkk, hg, rfl, rfl, HI⟩ := hrel
    have HW := hidS HI.out.1
    have HA := hidS HI.out.2
    clear HI
    by_cases hlt : kk < xn
    rotate_left
    · have hltz : ¬ (kk : Int) < (xn : Int) := by omega
      have he : acc = QQ ∧ WW = 0 := by
        have h := HA.out
        rw [List.drop_eq_nil_of_le (by have := HXN.out.1; omega)] at h
        simp only [aheadR] at h
        omega
      obtain ⟨rfl, rfl⟩ := he
      have HD := hidS (HSO.out _ HW.out).1
      clear hg hkk
      go_wp2_with fail
      go_returns
      exact ⟨rfl, HD.out⟩
    have hltz : (kk : Int) < (xn : Int) := by omega
    have hlz : kk < X.length := by rw [← HXN.out.1]; exact hlt
    obtain ⟨lb, lo, rb, ro, rc, hq, hlb, e0, e1, hrb, hLz, hcp1, hcp2⟩ := ls_atC (HX.out _ HW.out) HNE.out hlz
    have HCP : Hid (X[kk]!.rests.length ≤ rc ∧ rc ≤ 9223372036854775807) := ⟨hcp1, hcp2⟩
    clear hcp1 hcp2
    subst hq
    have hmem : X[kk]! ∈ X := by rw [getE _ _ hlz]; exact List.getElem_mem hlz
    have hLC := HGD.out _ hmem
    have hdr := drop_atL hlz
    have HA2 : Hid (0 ≤ acc ∧ acc + (aheadR ⟨a, b, c, d, p, q, s, t⟩ (X[kk]! :: X.drop (kk + 1))).1 = QQ ∧ (aheadR ⟨a, b, c, d, p, q, s, t⟩ (X[kk]! :: X.drop (kk + 1))).2 = WW) := by rw [← hdr]; exact HA.out
    have HNX : Hid (0 ≤ (aheadR ⟨a, b, c, d, p, q, s, t⟩ (X.drop (kk + 1))).1) := (ahead_le _ (fun l hm => HGD.out l (List.mem_of_mem_drop hm))).1
    have HR60 : Hid (X[kk]!.rests.length ≤ 60) := ((qchk_zero _).1 (lchk_zero hLC).2.2).1
    obtain ⟨p0, zs, hLx⟩ : ∃ p0 zs, X[kk]! = (⟨p0, zs⟩ : L) := ⟨_, _, rfl⟩
    rw [hLx] at e0 e1 hLz hLC HA2 HR60 HCP
    simp only [] at e0 e1 hLz HR60 HCP
    obtain ⟨hpp, hzne, hqz⟩ := lchk_zero hLC
    have hPX : ord.prB p0 = true := by simp only [] at hpp; simp [ord.prB, hpp]
    have HLZ := hidS hLz
    have HQZ : Hid (qchk zs = 0) := hqz
    have hin1 : ¬ ((kk : Int) < 0) := by omega
    have hBa : Below wr.heap.size wr (wr.alloc (.cells #[.int .i64 p0, .slice (some ⟨rb, ro, none⟩) zs.length rc] 31)) := (Below.refl _ _).alloc (Nat.le_refl _) _
    have hRL : (wr.alloc (.cells #[.int .i64 p0, .slice (some ⟨rb, ro, none⟩) zs.length rc] 31)).heap[wr.heap.size]? = some (.cells #[.int .i64 p0, .slice (some ⟨rb, ro, none⟩) zs.length rc] 31 (0, 0)) := heap_alloc_new wr _
    have HLW := hidS (show Lies (wr.alloc (.cells #[.int .i64 p0, .slice (some ⟨rb, ro, none⟩) zs.length rc] 31)) rb ro zs ∧ rb < (wr.alloc (.cells #[.int .i64 p0, .slice (some ⟨rb, ro, none⟩) zs.length rc] 31)).heap.size from ⟨hLz.below hrb hBa, Nat.lt_of_lt_of_le hrb hBa.size⟩)
    have HWA := hidS (HW.out.trans (hBa.mono HW.out.size))
    have HKK : Hid (xn - (kk + 1) < gk ∧ kk + 1 ≤ xn ∧ xn - kk ≤ gk) := ⟨by omega, by omega, by omega⟩
    clear hdr hmem hLC hLx HA hBa hLz hrb hzne hqz hpp hkk hg hlb HNE HAA
    go_upto_region 5 with fail
    generalize wr.alloc (.cells #[.int .i64 p0, .slice (some ⟨rb, ro, none⟩) zs.length rc] 31) = W1 at *
    generalize wr.heap.size = LB at *
    obtain ⟨l0, l1, -⟩ := rowTwo hRL
    have hLB : LB < W1.heap.size := (Array.getElem?_eq_some_iff.1 hRL).1
    obtain ⟨-, cel⟩ := HSO.out W1 HWA.out
    have u0 := cel 0
    have u1 := cel 1
    have u2 := cel 2
    have u3 := cel 3
    have u4 := cel 4
    have u5 := cel 5
    have u6 := cel 6
    have u7' := cel 7
    simp only [List.getElem?_toArray, List.getElem?_cons_zero, List.getElem?_cons_succ] at u0 u1 u2 u3 u4 u5 u6 u7'
    clear cel e0 e1 hltz hin1 hlz hlt
    obtain ⟨M, hM⟩ : ∃ M, mB ⟨a, b, c, d, p, q, s, t⟩ p0 = M := ⟨_, rfl⟩
    have HM := hidS hM
    have HMC := hidS (HMT.out p0 M W1 hPX hM)
    clear hM hPX
    go_wp2_with fail
    refine HMC.out.mono ?_
    rintro e w2 ⟨rfl, b2⟩
    have HW2 := hidS (HWA.out.trans (b2.mono HWA.out.size))
    have l0' := keeps b2 l0
    have l1' := keeps b2 l1
    have v1 := keeps b2 u1
    have HLZ2 := hidS (show Lies w2 rb ro zs ∧ rb < w2.heap.size from ⟨HLW.out.1.below HLW.out.2 b2, Nat.lt_of_lt_of_le HLW.out.2 b2.size⟩)
    clear u0 u1 u2 u3 u4 u5 u6 u7' l0 l1 b2 HMC HLW
    cases M
    · have he : acc = QQ ∧ WW = 0 := by
        have h := HA2.out
        rw [ahead_stop (l := ⟨p0, zs⟩) HM.out] at h
        simp only [] at h
        omega
      obtain ⟨rfl, rfl⟩ := he
      have HD := hidS (HSO.out _ HW2.out).1
      go_wp2_with fail
      go_returns
      exact ⟨rfl, HD.out⟩
    have HIX := hidS (ownix_any b Q rb ro rc zs w2 (by have := HW2.out.size; have := HQ.out; omega) v1 HLZ2.out.2 (by have := HR60.out; omega) HLZ2.out.1)
    obtain ⟨ix, hix⟩ : ∃ ix, idxW b zs = ix := ⟨_, rfl⟩
    have HII := hidS hix
    rw [hix] at HIX
    clear hix
    go_wp2_with fail
    refine HIX.out.mono ?_
    rintro e w3 ⟨rfl, b3⟩
    have HW3 := hidS (HW2.out.trans (b3.mono HW2.out.size))
    have l1x := keeps b3 l1'
    have HLZ3 := hidS (show Lies w3 rb ro zs ∧ rb < w3.heap.size from ⟨HLZ2.out.1.below HLZ2.out.2 b3, Nat.lt_of_lt_of_le HLZ2.out.2 b3.size⟩)
    clear l0' l1' v1 b3 HIX HLZ2
    by_cases hi : 0 ≤ ix
    · obtain ⟨i, hii⟩ : ∃ i : Nat, ix = (i : Int) := ⟨ix.toNat, by omega⟩
      subst hii
      have hil : i < zs.length := by have h := idxW_lt b zs; rw [HII.out] at h; omega
      obtain ⟨r, hr⟩ : ∃ r, zs[i]! = r := ⟨_, rfl⟩
      obtain ⟨r1, r2, r3, r4, r5⟩ := r
      obtain ⟨d0, d1, d2, d3, d4⟩ := lies_at HLZ3.out.1 hil hr
      obtain ⟨SQ, hSQ⟩ : ∃ SQ, shq (zs.take i) = SQ := ⟨_, rfl⟩
      have he : acc + SQ = QQ ∧ r1 = WW := by
        have h := HA2.out
        rw [ahead_own (l := ⟨p0, zs⟩) HM.out (by simp only []; rw [HII.out]; omega)] at h
        simp only [HII.out, Int.toNat_natCast, hr, hSQ] at h
        exact h.2
      have HSH : Hid (∀ W, Below w3.heap.size w3 W → Calls Try.prog 40 #[.slice (some ⟨rb, ro, none⟩) i rc] W fun e w' => e = .returned (.int .i64 SQ) ∧ Below w3.heap.size w3 w') := fun W hW => by
        rw [← hSQ]
        refine (sshown_any rb ro i rc (zs.take i) W (Nat.lt_of_lt_of_le HLZ3.out.2 hW.size) ((HLZ3.out.1.below HLZ3.out.2 hW).take i) (by rw [List.length_take]; omega) (fun x hx => ((qchk_zero _).1 HQZ.out).2.1 x (List.mem_of_mem_take hx)) (by have := HR60.out; omega)).mono ?_
        rintro e w' ⟨rfl, hb⟩
        exact ⟨rfl, hW.trans (hb.mono hW.size)⟩
      have E1 : Hid (wrap64 (acc + SQ) = QQ) := by
        have h1 := HLE.out
        show _ = _
        rw [he.1]; unfold wrap64; omega
      obtain ⟨-, rfl⟩ := he
      have SO : Hid (∀ W, Below w3.heap.size w3 W → (Below w3.heap.size w3 W ∧ W.cell? ⟨LB, 1, none⟩ = some (.slice (some ⟨rb, ro, none⟩) zs.length rc) ∧ W.cell? ⟨rb, ro + i * 5, none⟩ = some (.int .i64 r1))) := fun W hW => ⟨hW, keeps hW l1x, keeps hW d0⟩
      have HFI : Hid (∀ W, Below w3.heap.size w3 W → Below w.heap.size w W) := fun W hW => (HSO.out W (HW3.out.trans (hW.mono HW3.out.size))).1
      have h60 := HR60.out
      have hi1 : ¬ ((i : Int) < 0) := by omega
      have hi2 : (i : Int) < (zs.length : Int) := by omega
      have hi3 : ¬ (zs.length : Int) ≤ (i : Int) := by omega
      have hi4 : (0 : Int) ≤ (i : Int) := by omega
      have hi5 : (i : Int) ≤ (rc : Int) := by have := HCP.out.1; omega
      have hi6 : ¬ ((rc : Int) < (i : Int)) := by omega
      have x1 := E1.out
      have x1b : IntKind.i64.wrap (acc + SQ) = QQ := (IntWalk.i64_left _).trans x1
      clear hr hSQ d1 d2 d3 d4 HLZ3 HA2 HNX HII
      generalize zs.length = zl at *
      go_upto_region 11 with fail
      go_region_held3 (fun W => Below w3.heap.size w3 W ∧ W.cell? ⟨LB, 1, none⟩ = some (.slice (some ⟨rb, ro, none⟩) zl rc) ∧ W.cell? ⟨rb, ro + i * 5, none⟩ = some (.int .i64 r1))
        ((refine SO.out _ ?_; (repeat' (first | with_reducible assumption | with_reducible refine balS ?_ _ | with_reducible refine Below.drew ?_ | with_reducible exact Below.refl _ _ | with_reducible exact Nat.le_refl _ | with_reducible exact Below.size (by with_reducible assumption)))))
        (first | (go_at_call 40; with_reducible refine (HSH.out _ ?_).mono ?_; (repeat' (first | with_reducible assumption | with_reducible refine Below.drew ?_ | with_reducible exact Below.refl _ _ | with_reducible exact Nat.le_refl _ | with_reducible exact Below.size (by with_reducible assumption))); rintro x w4 ⟨rfl, hb4⟩))
      all_goals go_wp2_with fail
      all_goals go_returns
      all_goals exact ⟨rfl, HFI.out _ (by repeat' (first | with_reducible assumption | with_reducible refine Below.drew ?_))⟩
    · have HTO : Hid (Calls Try.prog 41 #[.slice (some ⟨rb, ro, none⟩) zs.length rc] w3 fun e w' => e = .returned (.tuple #[.int .i64 (tot zs), .nilIface]) ∧ Below w3.heap.size w3 w') := total_some rb ro rc zs w3 HLZ3.out.2 HCP.out.1 HCP.out.2 HLZ3.out.1 HQZ.out
      obtain ⟨TT, hTT⟩ : ∃ TT, tot zs = TT := ⟨_, rfl⟩
      have he : acc + TT + (aheadR ⟨a, b, c, d, p, q, s, t⟩ (X.drop (kk + 1))).1 = QQ ∧ (aheadR ⟨a, b, c, d, p, q, s, t⟩ (X.drop (kk + 1))).2 = WW ∧ 0 ≤ acc ∧ 0 ≤ TT := by
        have h := HA2.out
        rw [ahead_on (l := ⟨p0, zs⟩) HM.out (by simp only []; rw [HII.out]; exact hi)] at h
        simp only [hTT] at h
        have h0 := (tot_le zs ((qchk_zero _).1 HQZ.out).2.1).1
        rw [hTT] at h0
        exact ⟨by omega, h.2.2, h.1, h0⟩
      rw [hTT] at HTO
      have HE := hidS he
      have E1 : Hid (wrap64 (acc + TT) = acc + TT) := by
        have h1 := HLE.out
        have h2 := HNX.out
        show _ = _
        unfold wrap64; omega
      have E2 : Hid (wrap64 ((kk : Int) + 1) = ((kk + 1 : Nat) : Int)) := by
        have h1 := HXN.out.2
        have h2 := HKK.out
        show _ = _
        unfold wrap64; omega
      have hib : ¬ (0 ≤ ix) := hi
      have HZL : Hid (True) := trivial
      generalize zs.length = zl at *
      clear hTT he HA2 HLZ3
      go_wp2_with fail
      refine HTO.out.mono ?_
      rintro e w4 ⟨rfl, b4⟩
      have HW4 := hidS (HW3.out.trans (b4.mono HW3.out.size))
      clear b4 HTO l1x
      have x1 := E1.out
      have x2 := E2.out
      go_wp2_with fail
      go_roundg (xn - (kk + 1))
      case measure => exact HKK.out.1
      case rel =>
        exact ⟨kk + 1, acc + TT, HKK.out.2.1, Nat.le_refl _, by go_num, by rw [E1.out], HW4.out, by have := HE.out; omega, HE.out.1, HE.out.2.1⟩
end Go.Proofs.Ytnjpjieedgmffaa.slf
