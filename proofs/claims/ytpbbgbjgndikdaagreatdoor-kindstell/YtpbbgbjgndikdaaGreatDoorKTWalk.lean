/- Contracts over this seat's translation: the document's Come, where nobody minds to trade with oneself. The walk of KindsTell. -/
import Derived.Test.YtpbbgbjgndikdaaGreatDoorKinRef2
import Derived.Test.YtpbbgbjgndikdaaGreatDoorBokSame
import Derived.Test.YtpbbgbjgndikdaaGreatDoorKinDo
import Derived.Deep.RegionHeld3
import Derived.Test.YtpbbgbjgndikdaaGreatDoorTold
namespace Go.Proofs.YtpbbgbjgndikdaaGreatDoor.kin
open Go.RowKit Go.Proofs.YtpbbgbjgndikdaaGreatDoor.spn Go.Proofs.YtpbbgbjgndikdaaGreatDoor.que Go.Proofs.YtpbbgbjgndikdaaGreatDoor.sid Go.Proofs.YtpbbgbjgndikdaaGreatDoor.bok Go.Proofs.YtpbbgbjgndikdaaGreatDoor.mee
open Go.Proofs.YtpbbgbjgndikdaaGreatDoor.ord (O oV mB mE chk meets_any ref_may)
open Go.Proofs.YtpbbgbjgndikdaaGreatDoor.tickP (priceB sideB betOk betR)

/-- What 'Come' answers. -/
def ComePost (bs ss : List L) (o : O) (w : World) (e : Ending) (w' : World) : Prop :=
  (kdoE bs ss o = 0 → ∃ q1 q2 n1 n2 c1 c2 tv lf, e = .returned (.tuple #[.agg #[.slice q1 n1 c1, .slice q2 n2 c2, tv, .int .i64 lf, .int .i64 (kdoG bs ss o), .slice none 0 0, .bool false], .int .i64 0]) ∧ LS w' (.slice q1 n1 c1) (kdoB bs ss o) ∧ LS w' (.slice q2 n2 c2) (kdoS bs ss o) ∧ OwnT w' w.heap.size tv (metR bs ss o).2.1) ∧
  (¬ kdoE bs ss o = 0 → e = .returned (.tuple #[.agg #[.slice none 0 0, .slice none 0 0, .slice none 0 0, .int .i64 0, .int .i64 0, .slice none 0 0, .bool false], .int .i64 (kdoE bs ss o)])) ∧ Below w.heap.size w w'
theorem newBk {U w' : World} (h : Below (U.alloc (.cells #[.slice none 0 0, .slice none 0 0] 24)).heap.size (U.alloc (.cells #[.slice none 0 0, .slice none 0 0] 24)) w') : w'.heap[U.heap.size]? = some (.cells #[.slice none 0 0, .slice none 0 0] 24 (0, 0)) := (h.block _ (by simp)).trans (heap_alloc_new U _)
theorem newBk2 {U w' : World} (h : Below (U.alloc (.cells #[.slice none 0 0, .slice none 0 0] 24)).drew.heap.size (U.alloc (.cells #[.slice none 0 0, .slice none 0 0] 24)).drew w') : w'.heap[U.heap.size]? = some (.cells #[.slice none 0 0, .slice none 0 0] 24 (0, 0)) := by
  have e : (U.alloc (.cells #[.slice none 0 0, .slice none 0 0] 24)).drew.heap = (U.alloc (.cells #[.slice none 0 0, .slice none 0 0] 24)).heap := rfl
  have h1 := h.block U.heap.size (by rw [e]; simp)
  rw [e] at h1
  exact h1.trans (heap_alloc_new U _)
theorem set_putK {bs ss : List L} {o : O} {k : Int} (h : setE bs ss o k = 0) (hst : stayB o k = true) : putE bs ss o.side o.price (keptR o k) = 0 := by
  unfold setE at h
  rw [if_pos hst] at h
  by_cases hr : restE o k = 0
  · rw [if_pos hr] at h; exact h
  · rw [if_neg hr] at h; exact absurd h hr
theorem kdo_bookK {bs ss : List L} {o : O} (h : kdoE bs ss o = 0) : bookE (kdoB bs ss o) (kdoS bs ss o) = 0 := by
  obtain ⟨h1, h2, h3⟩ := kdo_zero h
  unfold kdoB kdoS setB setS
  by_cases hst : stayB o (metR bs ss o).2.2 = true
  · rw [if_pos hst, if_pos hst]
    exact (put_zero (set_putK h3 hst)).2.2
  · rw [if_neg hst, if_neg hst]
    exact met_book (doE_zero h1).1
/-- Something is traded where the first one may be met, and there alone. -/
theorem met_first {bs ss : List L} {o : O} (h : comeE bs ss o = 0) : ((metR bs ss o).2.2 < o.qty ↔ ∃ l t, otherL bs ss o = l :: t ∧ mB o l.price = true) ∧ ((metR bs ss o).2.2 ≤ o.qty) := by
  obtain ⟨hbk, hck, -, -⟩ := come_zero h
  have hq := qty_of hck
  have hg := other_good (o := o) hbk
  obtain ⟨s1, s2, s3, s4⟩ := met_sum h
  refine ⟨⟨fun hlt => ?_, ?_⟩, by omega⟩
  · unfold metR at hlt
    cases hl : otherL bs ss o with
    | nil => rw [hl] at hlt; simp [tkl] at hlt
    | cons l t =>
      refine ⟨l, t, rfl, ?_⟩
      cases hm : mB o l.price with
      | true => rfl
      | false => rw [hl, tkl_stop hm] at hlt; simp at hlt
  · rintro ⟨l, t, hl, hm⟩
    have hlk := hg l (by rw [hl]; simp)
    have hlen : 1 ≤ (metR bs ss o).2.1.length := by
      unfold metR
      rw [hl]
      obtain ⟨p, zs⟩ := l
      obtain ⟨-, hne, hqk⟩ := lchk_zero hlk
      cases zs with
      | nil => exact absurd rfl hne
      | cons r rs =>
        rw [tkl_fill (by omega) hm hqk]
        simp
    omega

set_option maxRecDepth 100000 in
set_option maxHeartbeats 8000000 in
theorem rcome_any (q1 q2 : Option Addr) (n1 n2 c1 c2 : Nat) (bs ss : List L) (a b c d p q s t : Int) (w : World) (h1 : LS w (.slice q1 n1 c1) bs) (h2 : LS w (.slice q2 n2 c2) ss) (hC : comeE bs ss ⟨a, b, c, d, p, q, s, t⟩ = 0) :
    Calls Tryz.prog 32 #[.agg #[.slice q1 n1 c1, .slice q2 n2 c2], .agg #[.int .i64 a, .int .i64 b, .int .i64 c, .int .i64 d, .int .i64 p, .int .i64 q, .int .i64 s, .int .i64 t], .int .i64 0] w fun e w' => ComePost bs ss ⟨a, b, c, d, p, q, s, t⟩ w e w' := by
  obtain ⟨hbk, hch, -, -⟩ := come_zero hC
  have hside : c = 1 ∨ c = 2 := by
    have h := (ord.chk_zero hch).1
    simp [ord.headB] at h
    omega
  have hkind : d = 1 ∨ d = 2 ∨ d = 3 ∨ d = 4 ∨ d = 5 := by
    have h := (ord.chk_zero hch).1
    simp [ord.headB] at h
    omega
  have hnum := shw_of hch
  simp only [] at hnum
  obtain ⟨V1, hV1⟩ : ∃ V1, V1 = w.alloc (.cells #[.slice q1 n1 c1, .slice q2 n2 c2] 24) := ⟨_, rfl⟩
  obtain ⟨V2, hV2⟩ : ∃ V2, V2 = V1.alloc (.cells #[.int .i64 a, .int .i64 b, .int .i64 c, .int .i64 d, .int .i64 p, .int .i64 q, .int .i64 s, .int .i64 t] 60) := ⟨_, rfl⟩
  obtain ⟨V, hV⟩ : ∃ V, V = V2.alloc (.cells #[.slice none 0 0, .slice none 0 0, .slice none 0 0, .int .i64 0, .int .i64 0, .slice none 0 0, .bool false] 65) := ⟨_, rfl⟩
  have hs1 : V1.heap.size = w.heap.size + 1 := by rw [hV1]; simp
  have hs2 : V2.heap.size = w.heap.size + 2 := by rw [hV2]; simp [hs1]
  have hb1 : Below w.heap.size w V1 := by rw [hV1]; exact (Below.refl _ _).alloc (Nat.le_refl _) _
  have hb2 : Below V1.heap.size V1 V2 := by rw [hV2]; exact (Below.refl _ _).alloc (Nat.le_refl _) _
  have hb3 : Below V2.heap.size V2 V := by rw [hV]; exact (Below.refl _ _).alloc (Nat.le_refl _) _
  have hBV : Below w.heap.size w V := by
    have h := hb1.trans (hb2.mono hb1.size)
    exact h.trans (hb3.mono h.size)
  have hbx : V.heap[w.heap.size]? = some (.cells #[.slice q1 n1 c1, .slice q2 n2 c2] 24 (0, 0)) := by rw [hb3.block _ (by omega), hb2.block _ (by omega), hV1]; exact heap_alloc_new w _
  have hox : V.heap[w.heap.size + 1]? = some (.cells #[.int .i64 a, .int .i64 b, .int .i64 c, .int .i64 d, .int .i64 p, .int .i64 q, .int .i64 s, .int .i64 t] 60 (0, 0)) := by rw [hb3.block _ (by omega), ← hs1, hV2]; exact heap_alloc_new V1 _
  have hqx : V.heap[w.heap.size + 2]? = some (.cells #[.slice none 0 0, .slice none 0 0, .slice none 0 0, .int .i64 0, .int .i64 0, .slice none 0 0, .bool false] 65 (0, 0)) := by rw [← hs2, hV]; exact heap_alloc_new V2 _
  obtain ⟨G, hG⟩ : ∃ G, G = w.heap.size + 1 := ⟨_, rfl⟩
  obtain ⟨Q, hQ⟩ : ∃ Q, Q = w.heap.size + 2 := ⟨_, rfl⟩
  rw [← hG] at hox
  rw [← hQ] at hqx
  have hQV : Q < V.heap.size := (Array.getElem?_eq_some_iff.1 hqx).1
  have HSO : Hid (∀ W, Below V.heap.size V W → (Below w.heap.size w W ∧ W.heap[Q]? = some (.cells #[.slice none 0 0, .slice none 0 0, .slice none 0 0, .int .i64 0, .int .i64 0, .slice none 0 0, .bool false] 65 (0, 0)) ∧ (LS W (.slice q1 n1 c1) bs ∧ LS W (.slice q2 n2 c2) ss ∧ W.cell? ⟨w.heap.size, 0, none⟩ = some (.slice q1 n1 c1) ∧ W.cell? ⟨w.heap.size, 1, none⟩ = some (.slice q2 n2 c2))) ∧ W.cell? ⟨G, 0, none⟩ = some (.int .i64 a) ∧ W.cell? ⟨G, 1, none⟩ = some (.int .i64 b) ∧ W.cell? ⟨G, 2, none⟩ = some (.int .i64 c) ∧ W.cell? ⟨G, 3, none⟩ = some (.int .i64 d) ∧ W.cell? ⟨G, 4, none⟩ = some (.int .i64 p) ∧ W.cell? ⟨G, 5, none⟩ = some (.int .i64 q) ∧ W.cell? ⟨G, 6, none⟩ = some (.int .i64 s) ∧ W.cell? ⟨G, 7, none⟩ = some (.int .i64 t)) := fun W hW => by
    have hw := hBV.trans (hW.mono hBV.size)
    obtain ⟨g0, g1, -⟩ := rowTwo hbx
    have hg := (hW.block G (Array.getElem?_eq_some_iff.1 hox).1).trans hox
    exact ⟨⟨hw, (hW.block Q hQV).trans hqx, h1.below hw, h2.below hw, keeps hW g0, keeps hW g1⟩, by simp [World.cell?, hg], by simp [World.cell?, hg], by simp [World.cell?, hg], by simp [World.cell?, hg], by simp [World.cell?, hg], by simp [World.cell?, hg], by simp [World.cell?, hg], by simp [World.cell?, hg]⟩
  have HME := hidK (rmeet_any w.heap.size q1 q2 n1 n2 c1 c2 bs ss a b c d p q s t V hBV.size (h1.below (hide_first hBV)) (h2.below (hide_first hBV)) hC)
  have HERR : Hid (∀ W k, Below V.heap.size V W → kdoE bs ss ⟨a, b, c, d, p, q, s, t⟩ = k → ¬ k = 0 → ComePost bs ss ⟨a, b, c, d, p, q, s, t⟩ w (.returned (.tuple #[.agg #[.slice none 0 0, .slice none 0 0, .slice none 0 0, .int .i64 0, .int .i64 0, .slice none 0 0, .bool false], .int .i64 k])) (((((((W.setCell ⟨Q, 0, none⟩ (.slice none 0 0)).setCell ⟨Q, 1, none⟩ (.slice none 0 0)).setCell ⟨Q, 2, none⟩ (.slice none 0 0)).setCell ⟨Q, 3, none⟩ (.int .i64 0)).setCell ⟨Q, 4, none⟩ (.int .i64 0)).setCell ⟨Q, 5, none⟩ (.slice none 0 0)).setCell ⟨Q, 6, none⟩ (.bool false)) ∧ (((((((W.setCell ⟨Q, 0, none⟩ (.slice none 0 0)).setCell ⟨Q, 1, none⟩ (.slice none 0 0)).setCell ⟨Q, 2, none⟩ (.slice none 0 0)).setCell ⟨Q, 3, none⟩ (.int .i64 0)).setCell ⟨Q, 4, none⟩ (.int .i64 0)).setCell ⟨Q, 5, none⟩ (.slice none 0 0)).setCell ⟨Q, 6, none⟩ (.bool false)).heap[Q]? = some (.cells #[.slice none 0 0, .slice none 0 0, .slice none 0 0, .int .i64 0, .int .i64 0, .slice none 0 0, .bool false] 65 (0, 0))) := fun W k hW hk hk0 => by
    obtain ⟨⟨hw, hz, -⟩, -⟩ := HSO.out W hW
    have hg := grSeven W Q (.slice none 0 0) (.slice none 0 0) (.slice none 0 0) (.int .i64 0) (.int .i64 0) (.slice none 0 0) (.bool false)
    exact ⟨⟨fun h => absurd (hk.symm.trans h) hk0, fun _ => by rw [hk], hw.grown hg hw.size (fun k hk => by cases hk; omega)⟩, setSeven hz (.slice none 0 0) (.slice none 0 0) (.slice none 0 0) (.int .i64 0) (.int .i64 0) (.slice none 0 0) (.bool false)⟩
  have HFIN : Hid (∀ W y1 y2 l1 l2 k1 k2 lf gn tq tn tc, Below V.heap.size V W → LS W (.slice y1 l1 k1) (kdoB bs ss ⟨a, b, c, d, p, q, s, t⟩) → LS W (.slice y2 l2 k2) (kdoS bs ss ⟨a, b, c, d, p, q, s, t⟩) → OwnT W V.heap.size (.slice tq tn tc) (metR bs ss ⟨a, b, c, d, p, q, s, t⟩).2.1 → kdoE bs ss ⟨a, b, c, d, p, q, s, t⟩ = 0 → kdoG bs ss ⟨a, b, c, d, p, q, s, t⟩ = gn → ComePost bs ss ⟨a, b, c, d, p, q, s, t⟩ w (.returned (.tuple #[.agg #[.slice y1 l1 k1, .slice y2 l2 k2, .slice tq tn tc, .int .i64 lf, .int .i64 gn, .slice none 0 0, .bool false], .int .i64 0])) (((((((W.setCell ⟨Q, 0, none⟩ (.slice y1 l1 k1)).setCell ⟨Q, 1, none⟩ (.slice y2 l2 k2)).setCell ⟨Q, 2, none⟩ (.slice tq tn tc)).setCell ⟨Q, 3, none⟩ (.int .i64 lf)).setCell ⟨Q, 4, none⟩ (.int .i64 gn)).setCell ⟨Q, 5, none⟩ (.slice none 0 0)).setCell ⟨Q, 6, none⟩ (.bool false)) ∧ (((((((W.setCell ⟨Q, 0, none⟩ (.slice y1 l1 k1)).setCell ⟨Q, 1, none⟩ (.slice y2 l2 k2)).setCell ⟨Q, 2, none⟩ (.slice tq tn tc)).setCell ⟨Q, 3, none⟩ (.int .i64 lf)).setCell ⟨Q, 4, none⟩ (.int .i64 gn)).setCell ⟨Q, 5, none⟩ (.slice none 0 0)).setCell ⟨Q, 6, none⟩ (.bool false)).heap[Q]? = some (.cells #[.slice y1 l1 k1, .slice y2 l2 k2, .slice tq tn tc, .int .i64 lf, .int .i64 gn, .slice none 0 0, .bool false] 65 (0, 0))) := fun W y1 y2 l1 l2 k1 k2 lf gn tq tn tc hW g1 g2 g3 hk hgn => by
    obtain ⟨⟨hw, hz, -⟩, -⟩ := HSO.out W hW
    have hg := grSeven W Q (.slice y1 l1 k1) (.slice y2 l2 k2) (.slice tq tn tc) (.int .i64 lf) (.int .i64 gn) (.slice none 0 0) (.bool false)
    have hb := kdo_bookK hk
    refine ⟨⟨fun _ => ⟨_, _, _, _, _, _, _, _, by rw [hgn], ls_off g1 hg (met_no hz) (book_lv hb).1, ls_off g2 hg (met_no hz) (book_lv hb).2, OwnM.mono (kept_of g3 hg (fun z hz e => by cases e; have := (OwnM.lt g3 Q hz).1; omega)) hBV.size⟩, fun h => absurd hk h, hw.grown hg hw.size (fun k hk => by cases hk; omega)⟩, setSeven hz (.slice y1 l1 k1) (.slice y2 l2 k2) (.slice tq tn tc) (.int .i64 lf) (.int .i64 gn) (.slice none 0 0) (.bool false)⟩
  have HMB : Hid (bookE (metB bs ss ⟨a, b, c, d, p, q, s, t⟩) (metS bs ss ⟨a, b, c, d, p, q, s, t⟩) = 0) := met_book hC
  have HSD := hidK hside
  have HKD := hidK hkind
  have HCC := hidK hC
  have HNQ := hidK hnum
  have HQV := hidK hQV
  clear hs1 hs2 hb1 hb2 hb3 hbx hox hqx hBV hbk hch hside hkind hnum h1 h2 hC hQV
  obtain ⟨⟨-, -, -, -, g0, g1⟩, o0, o1, o2, o3, o4, o5, o6, o7⟩ := HSO.out V (Below.refl _ _)
  go_enter Tryz.func32, Tryz.ntmps32
  go_wp2_with fail
  rw [← hV1, ← hV2, ← hV]
  simp only [← hQ]
  simp only [← hG]
  clear hV1 hV2 hV hQ hG
  refine HME.out.mono ?_
  rintro e w1 ⟨i1, i2, b1⟩
  clear g0 g1 o0 o1 o2 o3 o4 o5 o6 o7 HME
  by_cases h4 : (metR bs ss ⟨a, b, c, d, p, q, s, t⟩).2.1.length ≤ 400
  rotate_left
  · have e2 := i2 h4
    subst e2
    have hBa : Below w1.heap.size w1 (w1.alloc (.cells #[.slice none 0 0, .slice none 0 0, .slice none 0 0, .int .i64 0, .int .i64 0, .slice none 0 0, .bool false] 65)) := (Below.refl _ _).alloc (Nat.le_refl _) _
    have HW2 := hidK (b1.trans (hBa.mono b1.size))
    have hk4 : kdoE bs ss ⟨a, b, c, d, p, q, s, t⟩ = 4 := by
      have hd : doE bs ss ⟨a, b, c, d, p, q, s, t⟩ = 4 := by unfold doE; rw [if_pos HCC.out, if_pos (by omega)]
      unfold kdoE
      rw [hd]
      rfl
    clear i1 i2 b1 hBa h4
    go_upto_region 2 with fail
    generalize w1.alloc (.cells #[.slice none 0 0, .slice none 0 0, .slice none 0 0, .int .i64 0, .int .i64 0, .slice none 0 0, .bool false] 65) = W2 at *
    obtain ⟨hPO, hHX⟩ := HERR.out W2 4 HW2.out (hk4) (by decide)
    have HPO := hidK hPO
    have HHX := hidK hHX
    obtain ⟨⟨-, hzr, -⟩, -⟩ := HSO.out W2 HW2.out
    obtain ⟨z0, z1, z2, z3, z4, z5, z6, zf⟩ := rowSeven hzr
    have f0 := zf 0
    have f1 := zf 1
    have f2 := zf 2
    have f3 := zf 3
    have f4 := zf 4
    have f5 := zf 5
    have f6 := zf 6
    clear zf hzr hPO hHX HERR HSO HFIN 
    go_wp2_with fail
    generalize (((((((W2.setCell ⟨Q, 0, none⟩ (.slice none 0 0)).setCell ⟨Q, 1, none⟩ (.slice none 0 0)).setCell ⟨Q, 2, none⟩ (.slice none 0 0)).setCell ⟨Q, 3, none⟩ (.int .i64 0)).setCell ⟨Q, 4, none⟩ (.int .i64 0)).setCell ⟨Q, 5, none⟩ (.slice none 0 0)).setCell ⟨Q, 6, none⟩ (.bool false)) = ZZ at *
    obtain ⟨y0', y1', y2', y3', y4', y5', y6', -⟩ := rowSeven HHX.out
    exact bodyPost_ret (v := .tuple #[.agg #[.slice none 0 0, .slice none 0 0, .slice none 0 0, .int .i64 0, .int .i64 0, .slice none 0 0, .bool false], .int .i64 4]) (by simp [results, Tryz.results32, go_sem, y0', y1', y2', y3', y4', y5', y6']) rfl HPO.out

  obtain ⟨y1, y2, l1, l2, k1, k2, tv, rfl, L1, L2, OT⟩ := i1 h4
  obtain ⟨tq, tc, htv⟩ := OwnM.form OT
  subst htv
  have HDZ : Hid (doE bs ss ⟨a, b, c, d, p, q, s, t⟩ = 0) := by show _ = _; unfold doE; rw [if_pos HCC.out, if_neg (by omega)]
  obtain ⟨lf, hlf⟩ : ∃ lf, (metR bs ss ⟨a, b, c, d, p, q, s, t⟩).2.2 = lf := ⟨_, rfl⟩
  have HLF := hidK hlf
  obtain ⟨ms1, ms2, ms3, ms4⟩ := met_sum HCC.out
  have HLL := hidK (show 0 ≤ lf ∧ lf ≤ q by rw [← hlf]; simp only [] at ms1; omega)
  rw [hlf]
  generalize htn : (metR bs ss ⟨a, b, c, d, p, q, s, t⟩).2.1.length = tn at *
  have hBa : Below w1.heap.size w1 (w1.alloc (.cells #[.slice y1 l1 k1, .slice y2 l2 k2, .slice tq tn tc, .int .i64 lf, .int .i64 0, .slice none 0 0, .bool false] 65)) := (Below.refl _ _).alloc (Nat.le_refl _) _
  have HW2 := hidK (b1.trans (hBa.mono b1.size))
  have hrm : (w1.alloc (.cells #[.slice y1 l1 k1, .slice y2 l2 k2, .slice tq tn tc, .int .i64 lf, .int .i64 0, .slice none 0 0, .bool false] 65)).heap[w1.heap.size]? = some (.cells #[.slice y1 l1 k1, .slice y2 l2 k2, .slice tq tn tc, .int .i64 lf, .int .i64 0, .slice none 0 0, .bool false] 65 (0, 0)) := heap_alloc_new w1 _
  have HLB := hidK ((hide_ls L1).below hBa)
  have HLS := hidK ((hide_ls L2).below hBa)
  have HTT : Hid (OwnT (w1.alloc (.cells #[.slice y1 l1 k1, .slice y2 l2 k2, .slice tq tn tc, .int .i64 lf, .int .i64 0, .slice none 0 0, .bool false] 65)) V.heap.size (.slice tq tn tc) (metR bs ss ⟨a, b, c, d, p, q, s, t⟩).2.1) := OwnM.below OT hBa
  have HTL := hidK (show ∀ z, (Value.slice tq tn tc).ownBlock = some z → V.heap.size ≤ z ∧ z < w1.heap.size from fun z hz => OwnM.lt OT z hz)
  have HP := hidK (show True ∧ True ∧ True ∧ V.heap.size ≤ w1.heap.size from ⟨trivial, trivial, trivial, b1.size⟩)
  clear i1 i2 L1 L2 OT hBa b1 h4 ms1 ms2 ms3 ms4 hlf htn
  go_upto_region 2 with fail
  generalize w1.alloc (.cells #[.slice y1 l1 k1, .slice y2 l2 k2, .slice tq tn tc, .int .i64 lf, .int .i64 0, .slice none 0 0, .bool false] 65) = W2 at *
  generalize w1.heap.size = M at *
  obtain ⟨⟨-, -, -, -, g0, g1⟩, o0, o1, o2, o3, o4, o5, o6, o7⟩ := HSO.out W2 HW2.out
  obtain ⟨m0, m1, m2, m3, m4, m5, m6, -⟩ := rowSeven hrm
  -- Whole
  by_cases h9 : d = 4 ∧ 0 < lf
  · obtain ⟨hd4, hl9⟩ := h9
    subst hd4
    have hk9 : kdoE bs ss ⟨a, b, c, 4, p, q, s, t⟩ = 9 := by
      unfold kdoE
      have hr : refE ⟨a, b, c, 4, p, q, s, t⟩ (metR bs ss ⟨a, b, c, 4, p, q, s, t⟩).2.2 = 9 := by unfold refE; rw [if_pos ⟨rfl, by rw [HLF.out]; exact hl9⟩]
      rw [if_pos HDZ.out, hr]
      rfl
    clear HLB HLS HTT
    obtain ⟨hPO, hHX⟩ := HERR.out W2 9 HW2.out (hk9) (by decide)
    have HPO := hidK hPO
    have HHX := hidK hHX
    obtain ⟨⟨-, hzr, -⟩, -⟩ := HSO.out W2 HW2.out
    obtain ⟨z0, z1, z2, z3, z4, z5, z6, zf⟩ := rowSeven hzr
    have f0 := zf 0
    have f1 := zf 1
    have f2 := zf 2
    have f3 := zf 3
    have f4 := zf 4
    have f5 := zf 5
    have f6 := zf 6
    clear zf hzr hPO hHX HERR HSO HFIN hrm 
    go_wp2_with fail
    generalize (((((((W2.setCell ⟨Q, 0, none⟩ (.slice none 0 0)).setCell ⟨Q, 1, none⟩ (.slice none 0 0)).setCell ⟨Q, 2, none⟩ (.slice none 0 0)).setCell ⟨Q, 3, none⟩ (.int .i64 0)).setCell ⟨Q, 4, none⟩ (.int .i64 0)).setCell ⟨Q, 5, none⟩ (.slice none 0 0)).setCell ⟨Q, 6, none⟩ (.bool false)) = ZZ at *
    obtain ⟨y0', y1', y2', y3', y4', y5', y6', -⟩ := rowSeven HHX.out
    exact bodyPost_ret (v := .tuple #[.agg #[.slice none 0 0, .slice none 0 0, .slice none 0 0, .int .i64 0, .int .i64 0, .slice none 0 0, .bool false], .int .i64 9]) (by simp [results, Tryz.results32, go_sem, y0', y1', y2', y3', y4', y5', y6']) rfl HPO.out

  have HO9 := hidK h9
  obtain ⟨hfst1, hfst2⟩ := met_first HCC.out
  rw [HLF.out] at hfst1 hfst2
  simp only [] at hfst1 hfst2
  have HFS := hidK hfst1
  -- the other side
  obtain ⟨oq, on', oc, ls, hof, hlo, hol⟩ : ∃ oq on' oc ls, (if (3 - c : Int) = 1 then Value.slice q1 n1 c1 else .slice q2 n2 c2) = .slice oq on' oc ∧ (∀ W, Below V.heap.size V W → LS W (.slice oq on' oc) ls) ∧ otherL bs ss ⟨a, b, c, d, p, q, s, t⟩ = ls := by
    rcases HSD.out with rfl | rfl
    · exact ⟨q2, n2, c2, ss, by rw [if_neg (by decide)], fun W hW => (HSO.out W hW).1.2.2.2.1, if_pos rfl⟩
    · exact ⟨q1, n1, c1, bs, by rw [if_pos (by decide)], fun W hW => (HSO.out W hW).1.2.2.1, if_neg (show ¬ (2 : Int) = 1 by decide)⟩
  have HLO := hidK hlo
  have HOL := hidK hol
  obtain ⟨oth, hoth⟩ : ∃ oth, (3 - c : Int) = oth := ⟨_, rfl⟩
  have E0 : Hid (wrap64 (3 - c) = oth) := by show _ = _; have h := HSD.out; rw [← hoth]; unfold wrap64; omega
  rw [hoth] at hof
  have HOF := hidK hof
  have HWO : Hid (d = 4 → lf = 0) := fun h => by
    have h1 := HLL.out.1
    by_cases h0 : 0 < lf
    · exact absurd ⟨h, h0⟩ HO9.out
    · omega
  clear hfst1 hfst2 hof hlo hol hoth h9
  go_upto_region 4 with fail
  go_cut [31] from 24 to 31 (fun s31 wx => s31 = .bool false ∧ wx = W2)
  case first =>
    by_cases hd4 : d = 4
    · have hl4 : lf = 0 := HWO.out hd4
      subst hd4 hl4
      go_wp2_with fail
      go_meet
      case rel => exact ⟨rfl, rfl⟩
    · have hd4b : (d == 4) = false := by simp [hd4]
      go_wp2_with fail
      go_meet
      case rel => exact ⟨rfl, rfl⟩
  case rest =>
  obtain ⟨rfl, hwc⟩ := hcut
  subst hwc
  have e0 := E0.out
  go_wp2_with fail
  refine (rof_any oth q1 q2 n1 n2 c1 c2 wc).mono ?_
  rintro e w3 ⟨rfl, b3⟩
  rw [HOF.out]
  have HW2 := hidK (HW2.out.trans (b3.mono HW2.out.size))
  have hrm := (b3.block M (Array.getElem?_eq_some_iff.1 hrm).1).trans hrm
  have HLB := hidK (HLB.out.below b3)
  have HLS := hidK (HLS.out.below b3)
  have HTT := hidK (OwnM.below HTT.out b3)
  clear e0 g0 g1 o0 o1 o2 o3 o4 o5 o6 o7 m0 m1 m2 m3 m4 m5 m6 b3
  have hon := ls_len (HLO.out w3 HW2.out)
  by_cases hd5 : d = 5
  · subst hd5
    have HNO : Hid (∀ (h : ¬ ∃ l t', ls = l :: t' ∧ mB ⟨a, b, c, 5, p, q, s, t⟩ l.price = true), lf = q) := fun h => by
      have h1 := HFS.out
      rw [HOL.out] at h1
      have h2 := HLL.out.2
      have h3 : ¬ lf < q := fun hh => h (h1.1 hh)
      omega
    have hpre : ∀ (hq : lf = q), (¬ lf = 0) ∧ refE ⟨a, b, c, 5, p, q, s, t⟩ lf = 0 ∧ restE ⟨a, b, c, 5, p, q, s, t⟩ lf = 0 ∧ (0 ≤ s ∧ s ≤ 10000 ∧ 1 ≤ lf ∧ lf ≤ 10000) := fun hq => by
      have hn := HNQ.out
      have hck := (come_zero HCC.out).2.1
      refine ⟨by omega, ?_, ?_, by omega⟩
      · unfold refE
        rw [if_neg (by simp), if_neg (by simp only []; omega)]
      · unfold restE
        rw [if_pos hck, if_pos (by simp only []; omega)]
    have HPRE := hidK hpre
    clear hpre
    cases ls with
    | nil =>
      have hon0 : on' = 0 := hon
      subst hon0
      obtain ⟨hl0, hrf, hre, hnm⟩ := HPRE.out (HNO.out (by simp))
      have HRF := hidK hrf
      have HRE := hidK hre
      have HNUM := hidK hnm
      clear hrf hre hnm hon
      obtain ⟨-, o0, o1, o2, o3, o4, o5, o6, o7⟩ := HSO.out w3 HW2.out
      obtain ⟨m0, m1, m2, m3, m4, m5, m6, -⟩ := rowSeven hrm
      have hlz : (lf == 0) = false := by simp [hl0]
      go_upto_region 16 with fail
      clear o0 o1 o2 o3 o4 o5 o6 o7 m0 m1 m2 m3 m4 m5 m6
      obtain ⟨r1, r2, r3, r4, r5, hkr⟩ : ∃ r1 r2 r3 r4 r5, keptR ⟨a, b, c, 5, p, q, s, t⟩ lf = ⟨r1, r2, r3, r4, r5⟩ := ⟨_, _, _, _, _, rfl⟩
      obtain ⟨PE, hPE⟩ : ∃ PE, putE (metB bs ss ⟨a, b, c, 5, p, q, s, t⟩) (metS bs ss ⟨a, b, c, 5, p, q, s, t⟩) c p (keptR ⟨a, b, c, 5, p, q, s, t⟩ lf) = PE := ⟨_, rfl⟩
      have hst : stayB ⟨a, b, c, 5, p, q, s, t⟩ lf = true := by unfold stayB mayK; simp [hl0]
      have hke0 : kdoE bs ss ⟨a, b, c, 5, p, q, s, t⟩ = PE := by
        unfold kdoE
        rw [if_pos HDZ.out, HLF.out, if_pos HRF.out]
        unfold setE
        rw [if_pos hst, if_pos HRE.out]
        exact hPE
      have HKE := hidK hke0
      have HKV := hidK (show kdoB bs ss ⟨a, b, c, 5, p, q, s, t⟩ = put1 (metB bs ss ⟨a, b, c, 5, p, q, s, t⟩) c p (keptR ⟨a, b, c, 5, p, q, s, t⟩ lf) ∧ kdoS bs ss ⟨a, b, c, 5, p, q, s, t⟩ = put2 (metS bs ss ⟨a, b, c, 5, p, q, s, t⟩) c p (keptR ⟨a, b, c, 5, p, q, s, t⟩ lf) ∧ kdoG bs ss ⟨a, b, c, 5, p, q, s, t⟩ = 0 by
        unfold kdoB kdoS kdoG setB setS setG
        rw [HLF.out, if_pos hst, if_pos hst, if_pos hst]
        exact ⟨rfl, rfl, rfl⟩)
      have HKP : Hid (∀ U, Below w3.heap.size w3 U → Calls Tryz.prog 35 #[.agg #[.int .i64 a, .int .i64 b, .int .i64 c, .int .i64 5, .int .i64 p, .int .i64 q, .int .i64 s, .int .i64 t], .int .i64 lf] U fun e w' => e = .returned (.agg #[.int .i64 r1, .int .i64 r2, .int .i64 r3, .int .i64 r4, .int .i64 r5]) ∧ Below w3.heap.size w3 w' ∧ Below U.heap.size U w') := fun U hU => by
        have hn := HNUM.out
        refine (rkept_any a b c 5 p q s t lf U hn.1 hn.2.1 hn.2.2.1 hn.2.2.2).mono ?_
        rintro e w' ⟨rfl, hb⟩
        exact ⟨by rw [hkr]; rfl, hU.trans (hb.mono hU.size), hb⟩
      have HJO : Hid (∀ U, Below w3.heap.size w3 U → Calls Tryz.prog 15 #[.agg #[.slice y1 l1 k1, .slice y2 l2 k2], .int .i64 c, .int .i64 p, .agg #[.int .i64 r1, .int .i64 r2, .int .i64 r3, .int .i64 r4, .int .i64 r5]] U fun e w' => ∃ x1 x2 b1 b2 e1 e2, e = .returned (.tuple #[.agg #[.slice x1 b1 e1, .slice x2 b2 e2], .int .i64 PE]) ∧ (PE = 0 → LS w' (.slice x1 b1 e1) (kdoB bs ss ⟨a, b, c, 5, p, q, s, t⟩) ∧ LS w' (.slice x2 b2 e2) (kdoS bs ss ⟨a, b, c, 5, p, q, s, t⟩)) ∧ Below w3.heap.size w3 w' ∧ Below U.heap.size U w') := fun U hU => by
        refine (rjoin_any c HSD.out y1 y2 l1 l2 k1 k2 _ _ p r1 r2 r3 r4 r5 U (HLB.out.below hU) (HLS.out.below hU) HMB.out).mono ?_
        rintro e w' ⟨x1, x2, b1, b2, e1, e2, rfl, hl, hb⟩
        rw [← hkr] at hl
        rw [hPE] at hl
        refine ⟨x1, x2, b1, b2, e1, e2, by rw [← hkr, hPE], fun h => ?_, hU.trans (hb.mono hU.size), hb⟩
        rw [HKV.out.1, HKV.out.2.1]
        exact hl h
      obtain ⟨⟨-, -, -⟩, o0, o1, o2, o3, o4, o5, o6, o7⟩ := HSO.out w3 HW2.out
      obtain ⟨m0, m1, m2, m3, m4, m5, m6, -⟩ := rowSeven hrm
      have SO : Hid (∀ U, Below w3.heap.size w3 U → (Below w3.heap.size w3 U ∧ U.cell? ⟨M, 0, none⟩ = some (.slice y1 l1 k1) ∧ U.cell? ⟨M, 1, none⟩ = some (.slice y2 l2 k2) ∧ U.cell? ⟨M, 3, none⟩ = some (.int .i64 lf) ∧ U.cell? ⟨G, 0, none⟩ = some (.int .i64 a) ∧ U.cell? ⟨G, 1, none⟩ = some (.int .i64 b) ∧ U.cell? ⟨G, 2, none⟩ = some (.int .i64 c) ∧ U.cell? ⟨G, 3, none⟩ = some (.int .i64 5) ∧ U.cell? ⟨G, 4, none⟩ = some (.int .i64 p) ∧ U.cell? ⟨G, 5, none⟩ = some (.int .i64 q) ∧ U.cell? ⟨G, 6, none⟩ = some (.int .i64 s) ∧ U.cell? ⟨G, 7, none⟩ = some (.int .i64 t))) := fun U hU => ⟨hU, keeps hU m0, keeps hU m1, keeps hU m3, keeps hU o0, keeps hU o1, keeps hU o2, keeps hU o3, keeps hU o4, keeps hU o5, keeps hU o6, keeps hU o7⟩
      clear hkr hPE hst hke0
      have hlb : (lf == 0) = false := by simp [hl0]
      have HRELA : Hid (∀ W3 x1 x2 b1 b2 e1 e2, Below w3.heap.size w3 W3 → (PE = 0 → LS W3 (.slice x1 b1 e1) (kdoB bs ss ⟨a, b, c, 5, p, q, s, t⟩) ∧ LS W3 (.slice x2 b2 e2) (kdoS bs ss ⟨a, b, c, 5, p, q, s, t⟩)) → (W3.alloc (.cells #[.slice x1 b1 e1, .slice x2 b2 e2] 24)).heap[W3.heap.size]? = some (.cells #[.slice x1 b1 e1, .slice x2 b2 e2] 24 (0, 0)) ∧ (W3.alloc (.cells #[.slice x1 b1 e1, .slice x2 b2 e2] 24)).heap[M]? = some (.cells #[.slice y1 l1 k1, .slice y2 l2 k2, .slice tq tn tc, .int .i64 lf, .int .i64 0, .slice none 0 0, .bool false] 65 (0, 0)) ∧ Aside (Below V.heap.size V (W3.alloc (.cells #[.slice x1 b1 e1, .slice x2 b2 e2] 24)) ∧ (PE = 0 → LS (W3.alloc (.cells #[.slice x1 b1 e1, .slice x2 b2 e2] 24)) (.slice x1 b1 e1) (kdoB bs ss ⟨a, b, c, 5, p, q, s, t⟩) ∧ LS (W3.alloc (.cells #[.slice x1 b1 e1, .slice x2 b2 e2] 24)) (.slice x2 b2 e2) (kdoS bs ss ⟨a, b, c, 5, p, q, s, t⟩)) ∧ OwnT (W3.alloc (.cells #[.slice x1 b1 e1, .slice x2 b2 e2] 24)) V.heap.size (.slice tq tn tc) (metR bs ss ⟨a, b, c, 5, p, q, s, t⟩).2.1)) := fun W3 x1 x2 b1 b2 e1 e2 hB hL => by
        have hBa : Below W3.heap.size W3 (W3.alloc (.cells #[.slice x1 b1 e1, .slice x2 b2 e2] 24)) := (Below.refl _ _).alloc (Nat.le_refl _) _
        have hB2 := hB.trans (hBa.mono hB.size)
        exact ⟨heap_alloc_new W3 _, (hB2.block M (Array.getElem?_eq_some_iff.1 hrm).1).trans hrm, HW2.out.trans (hB2.mono HW2.out.size), fun h => ⟨(hL h).1.below hBa, (hL h).2.below hBa⟩, OwnM.below HTT.out hB2⟩
      have HREL : Hid (∀ W3 x1 x2 b1 b2 e1 e2 X0, Below w3.heap.size w3 W3 → (PE = 0 → LS W3 (.slice x1 b1 e1) (kdoB bs ss ⟨a, b, c, 5, p, q, s, t⟩) ∧ LS W3 (.slice x2 b2 e2) (kdoS bs ss ⟨a, b, c, 5, p, q, s, t⟩)) → w3.heap.size ≤ X0 → W3.heap[X0]? = some (.cells #[.slice none 0 0, .slice none 0 0] 24 (0, 0)) → ((W3.setCell ⟨X0, 0, none⟩ (.slice x1 b1 e1)).setCell ⟨X0, 1, none⟩ (.slice x2 b2 e2)).heap[X0]? = some (.cells #[.slice x1 b1 e1, .slice x2 b2 e2] 24 (0, 0)) ∧ ((W3.setCell ⟨X0, 0, none⟩ (.slice x1 b1 e1)).setCell ⟨X0, 1, none⟩ (.slice x2 b2 e2)).heap[M]? = some (.cells #[.slice y1 l1 k1, .slice y2 l2 k2, .slice tq tn tc, .int .i64 lf, .int .i64 0, .slice none 0 0, .bool false] 65 (0, 0)) ∧ Aside (Below V.heap.size V ((W3.setCell ⟨X0, 0, none⟩ (.slice x1 b1 e1)).setCell ⟨X0, 1, none⟩ (.slice x2 b2 e2)) ∧ (PE = 0 → LS ((W3.setCell ⟨X0, 0, none⟩ (.slice x1 b1 e1)).setCell ⟨X0, 1, none⟩ (.slice x2 b2 e2)) (.slice x1 b1 e1) (kdoB bs ss ⟨a, b, c, 5, p, q, s, t⟩) ∧ LS ((W3.setCell ⟨X0, 0, none⟩ (.slice x1 b1 e1)).setCell ⟨X0, 1, none⟩ (.slice x2 b2 e2)) (.slice x2 b2 e2) (kdoS bs ss ⟨a, b, c, 5, p, q, s, t⟩)) ∧ OwnT ((W3.setCell ⟨X0, 0, none⟩ (.slice x1 b1 e1)).setCell ⟨X0, 1, none⟩ (.slice x2 b2 e2)) V.heap.size (.slice tq tn tc) (metR bs ss ⟨a, b, c, 5, p, q, s, t⟩).2.1)) := fun W3 x1 x2 b1 b2 e1 e2 X0 hB hL hX hr => by
        have hg := grTwo W3 X0 (.slice x1 b1 e1) (.slice x2 b2 e2)
        have hMl := (Array.getElem?_eq_some_iff.1 hrm).1
        have hW3 := HW2.out.trans (hB.mono HW2.out.size)
        have hrm3 := (hB.block M hMl).trans hrm
        have hT3 := OwnM.below HTT.out hB
        refine ⟨setTwo hr _ _, (hg.block M (Array.getElem?_eq_some_iff.1 hrm3).1 (fun e => by cases e; omega)).trans hrm3, hW3.grown hg hW3.size (fun k hk => by cases hk; have h1 := HP.out.2.2.2; omega), fun h => ?_, kept_of hT3 hg (fun z hz e => by cases e; have := (HTL.out X0 hz).2; omega)⟩
        have hb5 := kdo_bookK (HKE.out.trans h)
        exact ⟨ls_off (hL h).1 hg (two_no hr) (book_lv hb5).1, ls_off (hL h).2 hg (two_no hr) (book_lv hb5).2⟩
      go_upto_region 16 with fail
      go_cut [9, 12] from 75 to 87 (fun s9 s12 wx => ∃ x1 x2 b1 b2 e1 e2 X0, s9 = .int .i64 PE ∧ s12 = .pointer (some ⟨X0, 0, none⟩) ∧ wx.heap[X0]? = some (.cells #[.slice x1 b1 e1, .slice x2 b2 e2] 24 (0, 0)) ∧ wx.heap[M]? = some (.cells #[.slice y1 l1 k1, .slice y2 l2 k2, .slice tq tn tc, .int .i64 lf, .int .i64 0, .slice none 0 0, .bool false] 65 (0, 0)) ∧ Aside (Below V.heap.size V wx ∧ (PE = 0 → LS wx (.slice x1 b1 e1) (kdoB bs ss ⟨a, b, c, 5, p, q, s, t⟩) ∧ LS wx (.slice x2 b2 e2) (kdoS bs ss ⟨a, b, c, 5, p, q, s, t⟩)) ∧ OwnT wx V.heap.size (.slice tq tn tc) (metR bs ss ⟨a, b, c, 5, p, q, s, t⟩).2.1))
      case first =>
        go_region_held3 (fun U => Below w3.heap.size w3 U ∧ U.cell? ⟨M, 0, none⟩ = some (.slice y1 l1 k1) ∧ U.cell? ⟨M, 1, none⟩ = some (.slice y2 l2 k2) ∧ U.cell? ⟨M, 3, none⟩ = some (.int .i64 lf) ∧ U.cell? ⟨G, 0, none⟩ = some (.int .i64 a) ∧ U.cell? ⟨G, 1, none⟩ = some (.int .i64 b) ∧ U.cell? ⟨G, 2, none⟩ = some (.int .i64 c) ∧ U.cell? ⟨G, 3, none⟩ = some (.int .i64 5) ∧ U.cell? ⟨G, 4, none⟩ = some (.int .i64 p) ∧ U.cell? ⟨G, 5, none⟩ = some (.int .i64 q) ∧ U.cell? ⟨G, 6, none⟩ = some (.int .i64 s) ∧ U.cell? ⟨G, 7, none⟩ = some (.int .i64 t))
          ((refine SO.out _ ?_; (repeat' (first | with_reducible assumption | with_reducible refine bal ?_ _ | with_reducible refine Below.setCell ?_ ?_ _ | with_reducible refine Below.drew ?_ | with_reducible exact Below.refl _ _ | with_reducible exact Nat.le_refl _ | with_reducible exact Below.size (by with_reducible assumption) | with_reducible refine Nat.le_succ_of_le ?_))))
          (first | (go_at_call 35; with_reducible refine (HKP.out _ ?_).mono ?_; (repeat' (first | with_reducible assumption | with_reducible refine bal ?_ _ | with_reducible refine Below.drew ?_ | with_reducible exact Below.refl _ _ | with_reducible exact Nat.le_refl _ | with_reducible exact Below.size (by with_reducible assumption))); rintro x Wk ⟨rfl, hbk, hbUk⟩; have yk := True.intro; (try (have yk := newBk2 hbUk))) | (go_at_call 15; with_reducible refine (HJO.out _ ?_).mono ?_; (repeat' (first | with_reducible assumption | with_reducible refine bal ?_ _ | with_reducible refine Below.drew ?_ | with_reducible exact Below.refl _ _ | with_reducible exact Nat.le_refl _ | with_reducible exact Below.size (by with_reducible assumption))); rintro x W3 ⟨x1, x2, b1, b2, e1, e2, rfl, hl3, hb3, hbUj⟩; have yj := True.intro; (try (have yj := newBk hbUj)); (try (have yj := (hbUj.block _ (Array.getElem?_eq_some_iff.1 yk).1).trans yk)); (try (have yh := rowTwo yj; obtain ⟨ya, yb, yc⟩ := yh; have yc0 := yc 0; have yc1 := yc 1)); obtain ⟨za, zb, zc⟩ := rowTwo (heap_alloc_new W3 (.cells #[.slice none 0 0, .slice none 0 0] 24)); have zc0 := zc 0; have zc1 := zc 1))
        all_goals go_wp2_with fail
        all_goals go_meet
        all_goals first
          | exact ⟨x1, x2, b1, b2, e1, e2, _, rfl, rfl, HRELA.out W3 x1 x2 b1 b2 e1 e2 hb3 hl3⟩
          | exact ⟨x1, x2, b1, b2, e1, e2, _, rfl, rfl, HREL.out W3 x1 x2 b1 b2 e1 e2 _ hb3 hl3 hbk.size yj⟩
          | exact ⟨x1, x2, b1, b2, e1, e2, _, rfl, rfl, HREL.out W3 x1 x2 b1 b2 e1 e2 _ hb3 hl3 (Nat.le_refl _) yj⟩
      case rest =>
      obtain ⟨x1, x2, b1, b2, e1, e2, X0, rfl, rfl, hrx, hrm4, HA4⟩ := hcut
      have HW4 := hidK HA4.out.1
      have HL4 := hidK HA4.out.2.1
      have HT4 := hidK HA4.out.2.2
      clear HA4 o0 o1 o2 o3 o4 o5 o6 o7 m0 m1 m2 m3 m4 m5 m6 SO HKP HJO HREL HRELA hrm HTT HLB HLS
      by_cases hP0 : PE = 0
      rotate_left
      · have hP1 : (PE != 0) = true := by simp [hP0]
        obtain ⟨hPO, hHX⟩ := HERR.out wc PE HW4.out (HKE.out) hP0
        have HPO := hidK hPO
        have HHX := hidK hHX
        obtain ⟨⟨-, hzr, -⟩, -⟩ := HSO.out wc HW4.out
        obtain ⟨z0, z1, z2, z3, z4, z5, z6, zf⟩ := rowSeven hzr
        have f0 := zf 0
        have f1 := zf 1
        have f2 := zf 2
        have f3 := zf 3
        have f4 := zf 4
        have f5 := zf 5
        have f6 := zf 6
        clear zf hzr hPO hHX HERR HSO HFIN hrm4 hrx hP0
        go_wp2_with fail
        generalize (((((((wc.setCell ⟨Q, 0, none⟩ (.slice none 0 0)).setCell ⟨Q, 1, none⟩ (.slice none 0 0)).setCell ⟨Q, 2, none⟩ (.slice none 0 0)).setCell ⟨Q, 3, none⟩ (.int .i64 0)).setCell ⟨Q, 4, none⟩ (.int .i64 0)).setCell ⟨Q, 5, none⟩ (.slice none 0 0)).setCell ⟨Q, 6, none⟩ (.bool false)) = ZZ at *
        obtain ⟨y0', y1', y2', y3', y4', y5', y6', -⟩ := rowSeven HHX.out
        exact bodyPost_ret (v := .tuple #[.agg #[.slice none 0 0, .slice none 0 0, .slice none 0 0, .int .i64 0, .int .i64 0, .slice none 0 0, .bool false], .int .i64 PE]) (by simp [results, Tryz.results32, go_sem, y0', y1', y2', y3', y4', y5', y6']) rfl HPO.out

      subst hP0
      obtain ⟨v0, v1, -⟩ := rowTwo hrx
      obtain ⟨m0, m1, m2, m3, m4, m5, m6, mf⟩ := rowSeven hrm4
      have mf0 := mf 0
      have mf1 := mf 1
      go_upto_region 20 with fail
      have hg5 := grTwo wc M (.slice x1 b1 e1) (.slice x2 b2 e2)
      have hrm5 := seven_two hrm4 (.slice x1 b1 e1) (.slice x2 b2 e2)
      have hbk5 := kdo_bookK HKE.out
      have HW5 := hidK (HW4.out.grown hg5 HW4.out.size (fun k hk => by cases hk; exact HP.out.2.2.2))
      have HA5 := hidK (ls_off (HL4.out rfl).1 hg5 (met_no hrm4) (book_lv hbk5).1)
      have HB5 := hidK (ls_off (HL4.out rfl).2 hg5 (met_no hrm4) (book_lv hbk5).2)
      have HT5 := hidK (kept_of HT4.out hg5 (fun z hz e => by cases e; have := (HTL.out M hz).2; omega))
      clear v0 v1 m0 m1 m2 m3 m4 m5 m6 mf mf0 mf1 hg5 hrm4 hrx hbk5 HW4 HL4 HT4
      generalize (wc.setCell ⟨M, 0, none⟩ (.slice x1 b1 e1)).setCell ⟨M, 1, none⟩ (.slice x2 b2 e2) = W5 at *
      obtain ⟨m0, m1, m2, m3, m4, m5, m6, -⟩ := rowSeven hrm5
      obtain ⟨hPO, hHX⟩ := HFIN.out W5 x1 x2 b1 b2 e1 e2 lf 0 tq tn tc HW5.out HA5.out HB5.out HT5.out HKE.out HKV.out.2.2
      have HPO := hidK hPO
      have HHX := hidK hHX
      obtain ⟨⟨-, hzr, -⟩, -⟩ := HSO.out W5 HW5.out
      obtain ⟨z0, z1, z2, z3, z4, z5, z6, zf⟩ := rowSeven hzr
      have f0 := zf 0
      have f1 := zf 1
      have f2 := zf 2
      have f3 := zf 3
      have f4 := zf 4
      have f5 := zf 5
      have f6 := zf 6
      clear zf hzr hPO hHX HERR HSO HFIN hrm5
      go_wp2_with fail
      generalize (((((((W5.setCell ⟨Q, 0, none⟩ (.slice x1 b1 e1)).setCell ⟨Q, 1, none⟩ (.slice x2 b2 e2)).setCell ⟨Q, 2, none⟩ (.slice tq tn tc)).setCell ⟨Q, 3, none⟩ (.int .i64 lf)).setCell ⟨Q, 4, none⟩ (.int .i64 0)).setCell ⟨Q, 5, none⟩ (.slice none 0 0)).setCell ⟨Q, 6, none⟩ (.bool false)) = ZZ at *
      obtain ⟨y0', y1', y2', y3', y4', y5', y6', -⟩ := rowSeven HHX.out
      exact bodyPost_ret (v := .tuple #[.agg #[.slice x1 b1 e1, .slice x2 b2 e2, .slice tq tn tc, .int .i64 lf, .int .i64 0, .slice none 0 0, .bool false], .int .i64 0]) (by simp [results, Tryz.results32, go_sem, y0', y1', y2', y3', y4', y5', y6']) rfl HPO.out

    | cons l0 t0 =>
      obtain ⟨p0, zs⟩ := l0
      have honn : on' = t0.length + 1 := by simpa using hon
      have hxn : ¬ on' = 0 := by omega
      have hxp : (0 : Int) < (on' : Int) := by omega
      have hxq : 0 < on' := by omega
      obtain ⟨lb, lo, hoq, hlb, hLL⟩ : ∃ b o, oq = some ⟨b, o, none⟩ ∧ b < w3.heap.size ∧ LL w3 b o (⟨p0, zs⟩ :: t0) := by
        rcases HLO.out w3 HW2.out with ⟨e, e2⟩ | ⟨b, o, c', e, -, -, hb, hl⟩
        · cases e2
        · cases e; exact ⟨b, o, rfl, hb, hl⟩
      subst hoq
      obtain ⟨rq, rc, k0, k1', -⟩ := LL.at hLL (k := 0) (by simp) rfl
      simp only [Nat.zero_mul, Nat.add_zero] at k0 k1'
      obtain ⟨-, o0, o1, o2, o3, o4, o5, o6, o7⟩ := HSO.out w3 HW2.out
      have SO : Hid (∀ U, Below w3.heap.size w3 U → (Below w3.heap.size w3 U ∧ U.cell? ⟨lb, lo, none⟩ = some (.int .i64 p0) ∧ U.cell? ⟨G, 0, none⟩ = some (.int .i64 a) ∧ U.cell? ⟨G, 1, none⟩ = some (.int .i64 b) ∧ U.cell? ⟨G, 2, none⟩ = some (.int .i64 c) ∧ U.cell? ⟨G, 3, none⟩ = some (.int .i64 5) ∧ U.cell? ⟨G, 4, none⟩ = some (.int .i64 p) ∧ U.cell? ⟨G, 5, none⟩ = some (.int .i64 q) ∧ U.cell? ⟨G, 6, none⟩ = some (.int .i64 s) ∧ U.cell? ⟨G, 7, none⟩ = some (.int .i64 t))) := fun U hU => ⟨hU, keeps hU k0, keeps hU o0, keeps hU o1, keeps hU o2, keeps hU o3, keeps hU o4, keeps hU o5, keeps hU o6, keeps hU o7⟩
      have HMY : Hid (∀ U, Below w3.heap.size w3 U → Calls Tryz.prog 29 #[.agg #[.int .i64 a, .int .i64 b, .int .i64 c, .int .i64 5, .int .i64 p, .int .i64 q, .int .i64 s, .int .i64 t], .int .i64 p0] U fun e w' => e = .returned (.bool (mB ⟨a, b, c, 5, p, q, s, t⟩ p0)) ∧ Below w3.heap.size w3 w') := fun U hU => (ref_may a b c 5 p q s t p0 U HSD.out).mono fun e w' h => ⟨h.1, hU.trans (h.2.mono hU.size)⟩
      clear hLL hon honn
      go_upto_region 8 with fail
      go_region_held3 (fun U => Below w3.heap.size w3 U ∧ U.cell? ⟨lb, lo, none⟩ = some (.int .i64 p0) ∧ U.cell? ⟨G, 0, none⟩ = some (.int .i64 a) ∧ U.cell? ⟨G, 1, none⟩ = some (.int .i64 b) ∧ U.cell? ⟨G, 2, none⟩ = some (.int .i64 c) ∧ U.cell? ⟨G, 3, none⟩ = some (.int .i64 5) ∧ U.cell? ⟨G, 4, none⟩ = some (.int .i64 p) ∧ U.cell? ⟨G, 5, none⟩ = some (.int .i64 q) ∧ U.cell? ⟨G, 6, none⟩ = some (.int .i64 s) ∧ U.cell? ⟨G, 7, none⟩ = some (.int .i64 t))
        ((refine SO.out _ ?_; (repeat' (first | with_reducible assumption | with_reducible refine bal ?_ _ | with_reducible refine Below.drew ?_ | with_reducible exact Below.refl _ _ | with_reducible exact Nat.le_refl _ | with_reducible exact Below.size (by with_reducible assumption)))))
        (first | (go_at_call 29; with_reducible refine (HMY.out _ ?_).mono ?_; (repeat' (first | with_reducible assumption | with_reducible refine bal ?_ _ | with_reducible refine Below.drew ?_ | with_reducible exact Below.refl _ _ | with_reducible exact Nat.le_refl _ | with_reducible exact Below.size (by with_reducible assumption))); rintro x w5 ⟨rfl, b5⟩))
      have HW2 := hidK (HW2.out.trans (b5.mono HW2.out.size))
      have hrm := (b5.block M (Array.getElem?_eq_some_iff.1 hrm).1).trans hrm
      have HLB := hidK (HLB.out.below b5)
      have HLS := hidK (HLS.out.below b5)
      have HTT := hidK (OwnM.below HTT.out b5)
      clear SO HMY k0 k1' o0 o1 o2 o3 o4 o5 o6 o7 b5
      cases hmb : mB ⟨a, b, c, 5, p, q, s, t⟩ p0
      · obtain ⟨hl0, hrf, hre, hnm⟩ := HPRE.out (HNO.out (by rintro ⟨l, t', h1, h2⟩; cases h1; rw [hmb] at h2; cases h2))
        have HRF := hidK hrf
        have HRE := hidK hre
        have HNUM := hidK hnm
        clear hrf hre hnm hmb
        obtain ⟨-, o0, o1, o2, o3, o4, o5, o6, o7⟩ := HSO.out w5 HW2.out
        obtain ⟨m0, m1, m2, m3, m4, m5, m6, -⟩ := rowSeven hrm
        have hlz : (lf == 0) = false := by simp [hl0]
        go_upto_region 16 with fail
        clear o0 o1 o2 o3 o4 o5 o6 o7 m0 m1 m2 m3 m4 m5 m6
        obtain ⟨r1, r2, r3, r4, r5, hkr⟩ : ∃ r1 r2 r3 r4 r5, keptR ⟨a, b, c, 5, p, q, s, t⟩ lf = ⟨r1, r2, r3, r4, r5⟩ := ⟨_, _, _, _, _, rfl⟩
        obtain ⟨PE, hPE⟩ : ∃ PE, putE (metB bs ss ⟨a, b, c, 5, p, q, s, t⟩) (metS bs ss ⟨a, b, c, 5, p, q, s, t⟩) c p (keptR ⟨a, b, c, 5, p, q, s, t⟩ lf) = PE := ⟨_, rfl⟩
        have hst : stayB ⟨a, b, c, 5, p, q, s, t⟩ lf = true := by unfold stayB mayK; simp [hl0]
        have hke0 : kdoE bs ss ⟨a, b, c, 5, p, q, s, t⟩ = PE := by
          unfold kdoE
          rw [if_pos HDZ.out, HLF.out, if_pos HRF.out]
          unfold setE
          rw [if_pos hst, if_pos HRE.out]
          exact hPE
        have HKE := hidK hke0
        have HKV := hidK (show kdoB bs ss ⟨a, b, c, 5, p, q, s, t⟩ = put1 (metB bs ss ⟨a, b, c, 5, p, q, s, t⟩) c p (keptR ⟨a, b, c, 5, p, q, s, t⟩ lf) ∧ kdoS bs ss ⟨a, b, c, 5, p, q, s, t⟩ = put2 (metS bs ss ⟨a, b, c, 5, p, q, s, t⟩) c p (keptR ⟨a, b, c, 5, p, q, s, t⟩ lf) ∧ kdoG bs ss ⟨a, b, c, 5, p, q, s, t⟩ = 0 by
          unfold kdoB kdoS kdoG setB setS setG
          rw [HLF.out, if_pos hst, if_pos hst, if_pos hst]
          exact ⟨rfl, rfl, rfl⟩)
        have HKP : Hid (∀ U, Below w5.heap.size w5 U → Calls Tryz.prog 35 #[.agg #[.int .i64 a, .int .i64 b, .int .i64 c, .int .i64 5, .int .i64 p, .int .i64 q, .int .i64 s, .int .i64 t], .int .i64 lf] U fun e w' => e = .returned (.agg #[.int .i64 r1, .int .i64 r2, .int .i64 r3, .int .i64 r4, .int .i64 r5]) ∧ Below w5.heap.size w5 w' ∧ Below U.heap.size U w') := fun U hU => by
          have hn := HNUM.out
          refine (rkept_any a b c 5 p q s t lf U hn.1 hn.2.1 hn.2.2.1 hn.2.2.2).mono ?_
          rintro e w' ⟨rfl, hb⟩
          exact ⟨by rw [hkr]; rfl, hU.trans (hb.mono hU.size), hb⟩
        have HJO : Hid (∀ U, Below w5.heap.size w5 U → Calls Tryz.prog 15 #[.agg #[.slice y1 l1 k1, .slice y2 l2 k2], .int .i64 c, .int .i64 p, .agg #[.int .i64 r1, .int .i64 r2, .int .i64 r3, .int .i64 r4, .int .i64 r5]] U fun e w' => ∃ x1 x2 b1 b2 e1 e2, e = .returned (.tuple #[.agg #[.slice x1 b1 e1, .slice x2 b2 e2], .int .i64 PE]) ∧ (PE = 0 → LS w' (.slice x1 b1 e1) (kdoB bs ss ⟨a, b, c, 5, p, q, s, t⟩) ∧ LS w' (.slice x2 b2 e2) (kdoS bs ss ⟨a, b, c, 5, p, q, s, t⟩)) ∧ Below w5.heap.size w5 w' ∧ Below U.heap.size U w') := fun U hU => by
          refine (rjoin_any c HSD.out y1 y2 l1 l2 k1 k2 _ _ p r1 r2 r3 r4 r5 U (HLB.out.below hU) (HLS.out.below hU) HMB.out).mono ?_
          rintro e w' ⟨x1, x2, b1, b2, e1, e2, rfl, hl, hb⟩
          rw [← hkr] at hl
          rw [hPE] at hl
          refine ⟨x1, x2, b1, b2, e1, e2, by rw [← hkr, hPE], fun h => ?_, hU.trans (hb.mono hU.size), hb⟩
          rw [HKV.out.1, HKV.out.2.1]
          exact hl h
        obtain ⟨⟨-, -, -⟩, o0, o1, o2, o3, o4, o5, o6, o7⟩ := HSO.out w5 HW2.out
        obtain ⟨m0, m1, m2, m3, m4, m5, m6, -⟩ := rowSeven hrm
        have SO : Hid (∀ U, Below w5.heap.size w5 U → (Below w5.heap.size w5 U ∧ U.cell? ⟨M, 0, none⟩ = some (.slice y1 l1 k1) ∧ U.cell? ⟨M, 1, none⟩ = some (.slice y2 l2 k2) ∧ U.cell? ⟨M, 3, none⟩ = some (.int .i64 lf) ∧ U.cell? ⟨G, 0, none⟩ = some (.int .i64 a) ∧ U.cell? ⟨G, 1, none⟩ = some (.int .i64 b) ∧ U.cell? ⟨G, 2, none⟩ = some (.int .i64 c) ∧ U.cell? ⟨G, 3, none⟩ = some (.int .i64 5) ∧ U.cell? ⟨G, 4, none⟩ = some (.int .i64 p) ∧ U.cell? ⟨G, 5, none⟩ = some (.int .i64 q) ∧ U.cell? ⟨G, 6, none⟩ = some (.int .i64 s) ∧ U.cell? ⟨G, 7, none⟩ = some (.int .i64 t))) := fun U hU => ⟨hU, keeps hU m0, keeps hU m1, keeps hU m3, keeps hU o0, keeps hU o1, keeps hU o2, keeps hU o3, keeps hU o4, keeps hU o5, keeps hU o6, keeps hU o7⟩
        clear hkr hPE hst hke0
        have hlb : (lf == 0) = false := by simp [hl0]
        have HRELA : Hid (∀ W3 x1 x2 b1 b2 e1 e2, Below w5.heap.size w5 W3 → (PE = 0 → LS W3 (.slice x1 b1 e1) (kdoB bs ss ⟨a, b, c, 5, p, q, s, t⟩) ∧ LS W3 (.slice x2 b2 e2) (kdoS bs ss ⟨a, b, c, 5, p, q, s, t⟩)) → (W3.alloc (.cells #[.slice x1 b1 e1, .slice x2 b2 e2] 24)).heap[W3.heap.size]? = some (.cells #[.slice x1 b1 e1, .slice x2 b2 e2] 24 (0, 0)) ∧ (W3.alloc (.cells #[.slice x1 b1 e1, .slice x2 b2 e2] 24)).heap[M]? = some (.cells #[.slice y1 l1 k1, .slice y2 l2 k2, .slice tq tn tc, .int .i64 lf, .int .i64 0, .slice none 0 0, .bool false] 65 (0, 0)) ∧ Aside (Below V.heap.size V (W3.alloc (.cells #[.slice x1 b1 e1, .slice x2 b2 e2] 24)) ∧ (PE = 0 → LS (W3.alloc (.cells #[.slice x1 b1 e1, .slice x2 b2 e2] 24)) (.slice x1 b1 e1) (kdoB bs ss ⟨a, b, c, 5, p, q, s, t⟩) ∧ LS (W3.alloc (.cells #[.slice x1 b1 e1, .slice x2 b2 e2] 24)) (.slice x2 b2 e2) (kdoS bs ss ⟨a, b, c, 5, p, q, s, t⟩)) ∧ OwnT (W3.alloc (.cells #[.slice x1 b1 e1, .slice x2 b2 e2] 24)) V.heap.size (.slice tq tn tc) (metR bs ss ⟨a, b, c, 5, p, q, s, t⟩).2.1)) := fun W3 x1 x2 b1 b2 e1 e2 hB hL => by
          have hBa : Below W3.heap.size W3 (W3.alloc (.cells #[.slice x1 b1 e1, .slice x2 b2 e2] 24)) := (Below.refl _ _).alloc (Nat.le_refl _) _
          have hB2 := hB.trans (hBa.mono hB.size)
          exact ⟨heap_alloc_new W3 _, (hB2.block M (Array.getElem?_eq_some_iff.1 hrm).1).trans hrm, HW2.out.trans (hB2.mono HW2.out.size), fun h => ⟨(hL h).1.below hBa, (hL h).2.below hBa⟩, OwnM.below HTT.out hB2⟩
        have HREL : Hid (∀ W3 x1 x2 b1 b2 e1 e2 X0, Below w5.heap.size w5 W3 → (PE = 0 → LS W3 (.slice x1 b1 e1) (kdoB bs ss ⟨a, b, c, 5, p, q, s, t⟩) ∧ LS W3 (.slice x2 b2 e2) (kdoS bs ss ⟨a, b, c, 5, p, q, s, t⟩)) → w5.heap.size ≤ X0 → W3.heap[X0]? = some (.cells #[.slice none 0 0, .slice none 0 0] 24 (0, 0)) → ((W3.setCell ⟨X0, 0, none⟩ (.slice x1 b1 e1)).setCell ⟨X0, 1, none⟩ (.slice x2 b2 e2)).heap[X0]? = some (.cells #[.slice x1 b1 e1, .slice x2 b2 e2] 24 (0, 0)) ∧ ((W3.setCell ⟨X0, 0, none⟩ (.slice x1 b1 e1)).setCell ⟨X0, 1, none⟩ (.slice x2 b2 e2)).heap[M]? = some (.cells #[.slice y1 l1 k1, .slice y2 l2 k2, .slice tq tn tc, .int .i64 lf, .int .i64 0, .slice none 0 0, .bool false] 65 (0, 0)) ∧ Aside (Below V.heap.size V ((W3.setCell ⟨X0, 0, none⟩ (.slice x1 b1 e1)).setCell ⟨X0, 1, none⟩ (.slice x2 b2 e2)) ∧ (PE = 0 → LS ((W3.setCell ⟨X0, 0, none⟩ (.slice x1 b1 e1)).setCell ⟨X0, 1, none⟩ (.slice x2 b2 e2)) (.slice x1 b1 e1) (kdoB bs ss ⟨a, b, c, 5, p, q, s, t⟩) ∧ LS ((W3.setCell ⟨X0, 0, none⟩ (.slice x1 b1 e1)).setCell ⟨X0, 1, none⟩ (.slice x2 b2 e2)) (.slice x2 b2 e2) (kdoS bs ss ⟨a, b, c, 5, p, q, s, t⟩)) ∧ OwnT ((W3.setCell ⟨X0, 0, none⟩ (.slice x1 b1 e1)).setCell ⟨X0, 1, none⟩ (.slice x2 b2 e2)) V.heap.size (.slice tq tn tc) (metR bs ss ⟨a, b, c, 5, p, q, s, t⟩).2.1)) := fun W3 x1 x2 b1 b2 e1 e2 X0 hB hL hX hr => by
          have hg := grTwo W3 X0 (.slice x1 b1 e1) (.slice x2 b2 e2)
          have hMl := (Array.getElem?_eq_some_iff.1 hrm).1
          have hW3 := HW2.out.trans (hB.mono HW2.out.size)
          have hrm3 := (hB.block M hMl).trans hrm
          have hT3 := OwnM.below HTT.out hB
          refine ⟨setTwo hr _ _, (hg.block M (Array.getElem?_eq_some_iff.1 hrm3).1 (fun e => by cases e; omega)).trans hrm3, hW3.grown hg hW3.size (fun k hk => by cases hk; have h1 := HP.out.2.2.2; omega), fun h => ?_, kept_of hT3 hg (fun z hz e => by cases e; have := (HTL.out X0 hz).2; omega)⟩
          have hb5 := kdo_bookK (HKE.out.trans h)
          exact ⟨ls_off (hL h).1 hg (two_no hr) (book_lv hb5).1, ls_off (hL h).2 hg (two_no hr) (book_lv hb5).2⟩
        go_upto_region 16 with fail
        go_cut [9, 12] from 75 to 87 (fun s9 s12 wx => ∃ x1 x2 b1 b2 e1 e2 X0, s9 = .int .i64 PE ∧ s12 = .pointer (some ⟨X0, 0, none⟩) ∧ wx.heap[X0]? = some (.cells #[.slice x1 b1 e1, .slice x2 b2 e2] 24 (0, 0)) ∧ wx.heap[M]? = some (.cells #[.slice y1 l1 k1, .slice y2 l2 k2, .slice tq tn tc, .int .i64 lf, .int .i64 0, .slice none 0 0, .bool false] 65 (0, 0)) ∧ Aside (Below V.heap.size V wx ∧ (PE = 0 → LS wx (.slice x1 b1 e1) (kdoB bs ss ⟨a, b, c, 5, p, q, s, t⟩) ∧ LS wx (.slice x2 b2 e2) (kdoS bs ss ⟨a, b, c, 5, p, q, s, t⟩)) ∧ OwnT wx V.heap.size (.slice tq tn tc) (metR bs ss ⟨a, b, c, 5, p, q, s, t⟩).2.1))
        case first =>
          go_region_held3 (fun U => Below w5.heap.size w5 U ∧ U.cell? ⟨M, 0, none⟩ = some (.slice y1 l1 k1) ∧ U.cell? ⟨M, 1, none⟩ = some (.slice y2 l2 k2) ∧ U.cell? ⟨M, 3, none⟩ = some (.int .i64 lf) ∧ U.cell? ⟨G, 0, none⟩ = some (.int .i64 a) ∧ U.cell? ⟨G, 1, none⟩ = some (.int .i64 b) ∧ U.cell? ⟨G, 2, none⟩ = some (.int .i64 c) ∧ U.cell? ⟨G, 3, none⟩ = some (.int .i64 5) ∧ U.cell? ⟨G, 4, none⟩ = some (.int .i64 p) ∧ U.cell? ⟨G, 5, none⟩ = some (.int .i64 q) ∧ U.cell? ⟨G, 6, none⟩ = some (.int .i64 s) ∧ U.cell? ⟨G, 7, none⟩ = some (.int .i64 t))
            ((refine SO.out _ ?_; (repeat' (first | with_reducible assumption | with_reducible refine bal ?_ _ | with_reducible refine Below.setCell ?_ ?_ _ | with_reducible refine Below.drew ?_ | with_reducible exact Below.refl _ _ | with_reducible exact Nat.le_refl _ | with_reducible exact Below.size (by with_reducible assumption) | with_reducible refine Nat.le_succ_of_le ?_))))
            (first | (go_at_call 35; with_reducible refine (HKP.out _ ?_).mono ?_; (repeat' (first | with_reducible assumption | with_reducible refine bal ?_ _ | with_reducible refine Below.drew ?_ | with_reducible exact Below.refl _ _ | with_reducible exact Nat.le_refl _ | with_reducible exact Below.size (by with_reducible assumption))); rintro x Wk ⟨rfl, hbk, hbUk⟩; have yk := True.intro; (try (have yk := newBk2 hbUk))) | (go_at_call 15; with_reducible refine (HJO.out _ ?_).mono ?_; (repeat' (first | with_reducible assumption | with_reducible refine bal ?_ _ | with_reducible refine Below.drew ?_ | with_reducible exact Below.refl _ _ | with_reducible exact Nat.le_refl _ | with_reducible exact Below.size (by with_reducible assumption))); rintro x W3 ⟨x1, x2, b1, b2, e1, e2, rfl, hl3, hb3, hbUj⟩; have yj := True.intro; (try (have yj := newBk hbUj)); (try (have yj := (hbUj.block _ (Array.getElem?_eq_some_iff.1 yk).1).trans yk)); (try (have yh := rowTwo yj; obtain ⟨ya, yb, yc⟩ := yh; have yc0 := yc 0; have yc1 := yc 1)); obtain ⟨za, zb, zc⟩ := rowTwo (heap_alloc_new W3 (.cells #[.slice none 0 0, .slice none 0 0] 24)); have zc0 := zc 0; have zc1 := zc 1))
          all_goals go_wp2_with fail
          all_goals go_meet
          all_goals first
            | exact ⟨x1, x2, b1, b2, e1, e2, _, rfl, rfl, HRELA.out W3 x1 x2 b1 b2 e1 e2 hb3 hl3⟩
            | exact ⟨x1, x2, b1, b2, e1, e2, _, rfl, rfl, HREL.out W3 x1 x2 b1 b2 e1 e2 _ hb3 hl3 hbk.size yj⟩
            | exact ⟨x1, x2, b1, b2, e1, e2, _, rfl, rfl, HREL.out W3 x1 x2 b1 b2 e1 e2 _ hb3 hl3 (Nat.le_refl _) yj⟩
        case rest =>
        obtain ⟨x1, x2, b1, b2, e1, e2, X0, rfl, rfl, hrx, hrm4, HA4⟩ := hcut
        have HW4 := hidK HA4.out.1
        have HL4 := hidK HA4.out.2.1
        have HT4 := hidK HA4.out.2.2
        clear HA4 o0 o1 o2 o3 o4 o5 o6 o7 m0 m1 m2 m3 m4 m5 m6 SO HKP HJO HREL HRELA hrm HTT HLB HLS
        by_cases hP0 : PE = 0
        rotate_left
        · have hP1 : (PE != 0) = true := by simp [hP0]
          obtain ⟨hPO, hHX⟩ := HERR.out wc PE HW4.out (HKE.out) hP0
          have HPO := hidK hPO
          have HHX := hidK hHX
          obtain ⟨⟨-, hzr, -⟩, -⟩ := HSO.out wc HW4.out
          obtain ⟨z0, z1, z2, z3, z4, z5, z6, zf⟩ := rowSeven hzr
          have f0 := zf 0
          have f1 := zf 1
          have f2 := zf 2
          have f3 := zf 3
          have f4 := zf 4
          have f5 := zf 5
          have f6 := zf 6
          clear zf hzr hPO hHX HERR HSO HFIN hrm4 hrx hP0
          go_wp2_with fail
          generalize (((((((wc.setCell ⟨Q, 0, none⟩ (.slice none 0 0)).setCell ⟨Q, 1, none⟩ (.slice none 0 0)).setCell ⟨Q, 2, none⟩ (.slice none 0 0)).setCell ⟨Q, 3, none⟩ (.int .i64 0)).setCell ⟨Q, 4, none⟩ (.int .i64 0)).setCell ⟨Q, 5, none⟩ (.slice none 0 0)).setCell ⟨Q, 6, none⟩ (.bool false)) = ZZ at *
          obtain ⟨y0', y1', y2', y3', y4', y5', y6', -⟩ := rowSeven HHX.out
          exact bodyPost_ret (v := .tuple #[.agg #[.slice none 0 0, .slice none 0 0, .slice none 0 0, .int .i64 0, .int .i64 0, .slice none 0 0, .bool false], .int .i64 PE]) (by simp [results, Tryz.results32, go_sem, y0', y1', y2', y3', y4', y5', y6']) rfl HPO.out

        subst hP0
        obtain ⟨v0, v1, -⟩ := rowTwo hrx
        obtain ⟨m0, m1, m2, m3, m4, m5, m6, mf⟩ := rowSeven hrm4
        have mf0 := mf 0
        have mf1 := mf 1
        go_upto_region 20 with fail
        have hg5 := grTwo wc M (.slice x1 b1 e1) (.slice x2 b2 e2)
        have hrm5 := seven_two hrm4 (.slice x1 b1 e1) (.slice x2 b2 e2)
        have hbk5 := kdo_bookK HKE.out
        have HW5 := hidK (HW4.out.grown hg5 HW4.out.size (fun k hk => by cases hk; exact HP.out.2.2.2))
        have HA5 := hidK (ls_off (HL4.out rfl).1 hg5 (met_no hrm4) (book_lv hbk5).1)
        have HB5 := hidK (ls_off (HL4.out rfl).2 hg5 (met_no hrm4) (book_lv hbk5).2)
        have HT5 := hidK (kept_of HT4.out hg5 (fun z hz e => by cases e; have := (HTL.out M hz).2; omega))
        clear v0 v1 m0 m1 m2 m3 m4 m5 m6 mf mf0 mf1 hg5 hrm4 hrx hbk5 HW4 HL4 HT4
        generalize (wc.setCell ⟨M, 0, none⟩ (.slice x1 b1 e1)).setCell ⟨M, 1, none⟩ (.slice x2 b2 e2) = W5 at *
        obtain ⟨m0, m1, m2, m3, m4, m5, m6, -⟩ := rowSeven hrm5
        obtain ⟨hPO, hHX⟩ := HFIN.out W5 x1 x2 b1 b2 e1 e2 lf 0 tq tn tc HW5.out HA5.out HB5.out HT5.out HKE.out HKV.out.2.2
        have HPO := hidK hPO
        have HHX := hidK hHX
        obtain ⟨⟨-, hzr, -⟩, -⟩ := HSO.out W5 HW5.out
        obtain ⟨z0, z1, z2, z3, z4, z5, z6, zf⟩ := rowSeven hzr
        have f0 := zf 0
        have f1 := zf 1
        have f2 := zf 2
        have f3 := zf 3
        have f4 := zf 4
        have f5 := zf 5
        have f6 := zf 6
        clear zf hzr hPO hHX HERR HSO HFIN hrm5
        go_wp2_with fail
        generalize (((((((W5.setCell ⟨Q, 0, none⟩ (.slice x1 b1 e1)).setCell ⟨Q, 1, none⟩ (.slice x2 b2 e2)).setCell ⟨Q, 2, none⟩ (.slice tq tn tc)).setCell ⟨Q, 3, none⟩ (.int .i64 lf)).setCell ⟨Q, 4, none⟩ (.int .i64 0)).setCell ⟨Q, 5, none⟩ (.slice none 0 0)).setCell ⟨Q, 6, none⟩ (.bool false)) = ZZ at *
        obtain ⟨y0', y1', y2', y3', y4', y5', y6', -⟩ := rowSeven HHX.out
        exact bodyPost_ret (v := .tuple #[.agg #[.slice x1 b1 e1, .slice x2 b2 e2, .slice tq tn tc, .int .i64 lf, .int .i64 0, .slice none 0 0, .bool false], .int .i64 0]) (by simp [results, Tryz.results32, go_sem, y0', y1', y2', y3', y4', y5', y6']) rfl HPO.out

      · have hlt : lf < q := HFS.out.2 ⟨_, _, HOL.out, hmb⟩
        have hk8 : kdoE bs ss ⟨a, b, c, 5, p, q, s, t⟩ = 8 := by
          unfold kdoE
          have hr : refE ⟨a, b, c, 5, p, q, s, t⟩ (metR bs ss ⟨a, b, c, 5, p, q, s, t⟩).2.2 = 8 := by unfold refE; rw [if_neg (by simp), if_pos ⟨rfl, by rw [HLF.out]; exact hlt⟩]
          rw [if_pos HDZ.out, hr]
          rfl
        clear HLB HLS HTT hlt hmb
        obtain ⟨hPO, hHX⟩ := HERR.out w5 8 HW2.out (hk8) (by decide)
        have HPO := hidK hPO
        have HHX := hidK hHX
        obtain ⟨⟨-, hzr, -⟩, -⟩ := HSO.out w5 HW2.out
        obtain ⟨z0, z1, z2, z3, z4, z5, z6, zf⟩ := rowSeven hzr
        have f0 := zf 0
        have f1 := zf 1
        have f2 := zf 2
        have f3 := zf 3
        have f4 := zf 4
        have f5 := zf 5
        have f6 := zf 6
        clear zf hzr hPO hHX HERR HSO HFIN hrm
        go_wp2_with fail
        generalize (((((((w5.setCell ⟨Q, 0, none⟩ (.slice none 0 0)).setCell ⟨Q, 1, none⟩ (.slice none 0 0)).setCell ⟨Q, 2, none⟩ (.slice none 0 0)).setCell ⟨Q, 3, none⟩ (.int .i64 0)).setCell ⟨Q, 4, none⟩ (.int .i64 0)).setCell ⟨Q, 5, none⟩ (.slice none 0 0)).setCell ⟨Q, 6, none⟩ (.bool false)) = ZZ at *
        obtain ⟨y0', y1', y2', y3', y4', y5', y6', -⟩ := rowSeven HHX.out
        exact bodyPost_ret (v := .tuple #[.agg #[.slice none 0 0, .slice none 0 0, .slice none 0 0, .int .i64 0, .int .i64 0, .slice none 0 0, .bool false], .int .i64 8]) (by simp [results, Tryz.results32, go_sem, y0', y1', y2', y3', y4', y5', y6']) rfl HPO.out

  have hd5b : (d == 5) = false := by simp [hd5]
  have HD5 := hidK hd5
  obtain ⟨-, o0, o1, o2, o3, o4, o5, o6, o7⟩ := HSO.out w3 HW2.out
  obtain ⟨m0, m1, m2, m3, m4, m5, m6, -⟩ := rowSeven hrm
  have HRF : Hid (refE ⟨a, b, c, d, p, q, s, t⟩ lf = 0) := by
    show _ = _
    unfold refE
    rw [if_neg (fun h => by have := HWO.out h.1; simp only [] at h; omega), if_neg (fun h => HD5.out h.1)]
  clear hon hd5
  by_cases hl0 : lf = 0
  · subst hl0
    have hst : stayB ⟨a, b, c, d, p, q, s, t⟩ 0 = false := by unfold stayB; rfl
    have HKV := hidK (show kdoE bs ss ⟨a, b, c, d, p, q, s, t⟩ = 0 ∧ kdoB bs ss ⟨a, b, c, d, p, q, s, t⟩ = metB bs ss ⟨a, b, c, d, p, q, s, t⟩ ∧ kdoS bs ss ⟨a, b, c, d, p, q, s, t⟩ = metS bs ss ⟨a, b, c, d, p, q, s, t⟩ ∧ kdoG bs ss ⟨a, b, c, d, p, q, s, t⟩ = 0 by
      unfold kdoE kdoB kdoS kdoG setB setS setG setE
      rw [if_pos HDZ.out, HLF.out, if_pos HRF.out, hst]
      exact ⟨rfl, rfl, rfl, rfl⟩)
    obtain ⟨hPO, hHX⟩ := HFIN.out w3 y1 y2 l1 l2 k1 k2 0 0 tq tn tc HW2.out (by rw [HKV.out.2.1]; exact HLB.out) (by rw [HKV.out.2.2.1]; exact HLS.out) HTT.out HKV.out.1 HKV.out.2.2.2
    have HPO := hidK hPO
    have HHX := hidK hHX
    obtain ⟨⟨-, hzr, -⟩, -⟩ := HSO.out w3 HW2.out
    obtain ⟨z0, z1, z2, z3, z4, z5, z6, zf⟩ := rowSeven hzr
    have f0 := zf 0
    have f1 := zf 1
    have f2 := zf 2
    have f3 := zf 3
    have f4 := zf 4
    have f5 := zf 5
    have f6 := zf 6
    clear zf hzr hPO hHX HERR HSO HFIN hst HLB HLS HTT
    go_wp2_with fail
    generalize (((((((w3.setCell ⟨Q, 0, none⟩ (.slice y1 l1 k1)).setCell ⟨Q, 1, none⟩ (.slice y2 l2 k2)).setCell ⟨Q, 2, none⟩ (.slice tq tn tc)).setCell ⟨Q, 3, none⟩ (.int .i64 0)).setCell ⟨Q, 4, none⟩ (.int .i64 0)).setCell ⟨Q, 5, none⟩ (.slice none 0 0)).setCell ⟨Q, 6, none⟩ (.bool false)) = ZZ at *
    obtain ⟨y0', y1', y2', y3', y4', y5', y6', -⟩ := rowSeven HHX.out
    exact bodyPost_ret (v := .tuple #[.agg #[.slice y1 l1 k1, .slice y2 l2 k2, .slice tq tn tc, .int .i64 0, .int .i64 0, .slice none 0 0, .bool false], .int .i64 0]) (by simp [results, Tryz.results32, go_sem, y0', y1', y2', y3', y4', y5', y6']) rfl HPO.out

  have hlz : (lf == 0) = false := by simp [hl0]
  have hn4 : ¬ d = 4 := fun h => hl0 (HWO.out h)
  by_cases hd1 : d = 1
  · subst hd1
    have hck := (come_zero HCC.out).2.1
    have hn := HNQ.out
    have hll := HLL.out
    have HRE : Hid (restE ⟨a, b, c, 1, p, q, s, t⟩ lf = 0) := by
      show _ = _
      unfold restE
      rw [if_pos hck, if_pos (by simp only []; omega)]
    have HNUM := hidK (show 0 ≤ s ∧ s ≤ 10000 ∧ 1 ≤ lf ∧ lf ≤ 10000 by omega)
    clear hck hn hll hn4
    go_upto_region 16 with fail
    clear o0 o1 o2 o3 o4 o5 o6 o7 m0 m1 m2 m3 m4 m5 m6
    obtain ⟨r1, r2, r3, r4, r5, hkr⟩ : ∃ r1 r2 r3 r4 r5, keptR ⟨a, b, c, 1, p, q, s, t⟩ lf = ⟨r1, r2, r3, r4, r5⟩ := ⟨_, _, _, _, _, rfl⟩
    obtain ⟨PE, hPE⟩ : ∃ PE, putE (metB bs ss ⟨a, b, c, 1, p, q, s, t⟩) (metS bs ss ⟨a, b, c, 1, p, q, s, t⟩) c p (keptR ⟨a, b, c, 1, p, q, s, t⟩ lf) = PE := ⟨_, rfl⟩
    have hst : stayB ⟨a, b, c, 1, p, q, s, t⟩ lf = true := by unfold stayB mayK; simp [hl0]
    have hke0 : kdoE bs ss ⟨a, b, c, 1, p, q, s, t⟩ = PE := by
      unfold kdoE
      rw [if_pos HDZ.out, HLF.out, if_pos HRF.out]
      unfold setE
      rw [if_pos hst, if_pos HRE.out]
      exact hPE
    have HKE := hidK hke0
    have HKV := hidK (show kdoB bs ss ⟨a, b, c, 1, p, q, s, t⟩ = put1 (metB bs ss ⟨a, b, c, 1, p, q, s, t⟩) c p (keptR ⟨a, b, c, 1, p, q, s, t⟩ lf) ∧ kdoS bs ss ⟨a, b, c, 1, p, q, s, t⟩ = put2 (metS bs ss ⟨a, b, c, 1, p, q, s, t⟩) c p (keptR ⟨a, b, c, 1, p, q, s, t⟩ lf) ∧ kdoG bs ss ⟨a, b, c, 1, p, q, s, t⟩ = 0 by
      unfold kdoB kdoS kdoG setB setS setG
      rw [HLF.out, if_pos hst, if_pos hst, if_pos hst]
      exact ⟨rfl, rfl, rfl⟩)
    have HKP : Hid (∀ U, Below w3.heap.size w3 U → Calls Tryz.prog 35 #[.agg #[.int .i64 a, .int .i64 b, .int .i64 c, .int .i64 1, .int .i64 p, .int .i64 q, .int .i64 s, .int .i64 t], .int .i64 lf] U fun e w' => e = .returned (.agg #[.int .i64 r1, .int .i64 r2, .int .i64 r3, .int .i64 r4, .int .i64 r5]) ∧ Below w3.heap.size w3 w' ∧ Below U.heap.size U w') := fun U hU => by
      have hn := HNUM.out
      refine (rkept_any a b c 1 p q s t lf U hn.1 hn.2.1 hn.2.2.1 hn.2.2.2).mono ?_
      rintro e w' ⟨rfl, hb⟩
      exact ⟨by rw [hkr]; rfl, hU.trans (hb.mono hU.size), hb⟩
    have HJO : Hid (∀ U, Below w3.heap.size w3 U → Calls Tryz.prog 15 #[.agg #[.slice y1 l1 k1, .slice y2 l2 k2], .int .i64 c, .int .i64 p, .agg #[.int .i64 r1, .int .i64 r2, .int .i64 r3, .int .i64 r4, .int .i64 r5]] U fun e w' => ∃ x1 x2 b1 b2 e1 e2, e = .returned (.tuple #[.agg #[.slice x1 b1 e1, .slice x2 b2 e2], .int .i64 PE]) ∧ (PE = 0 → LS w' (.slice x1 b1 e1) (kdoB bs ss ⟨a, b, c, 1, p, q, s, t⟩) ∧ LS w' (.slice x2 b2 e2) (kdoS bs ss ⟨a, b, c, 1, p, q, s, t⟩)) ∧ Below w3.heap.size w3 w' ∧ Below U.heap.size U w') := fun U hU => by
      refine (rjoin_any c HSD.out y1 y2 l1 l2 k1 k2 _ _ p r1 r2 r3 r4 r5 U (HLB.out.below hU) (HLS.out.below hU) HMB.out).mono ?_
      rintro e w' ⟨x1, x2, b1, b2, e1, e2, rfl, hl, hb⟩
      rw [← hkr] at hl
      rw [hPE] at hl
      refine ⟨x1, x2, b1, b2, e1, e2, by rw [← hkr, hPE], fun h => ?_, hU.trans (hb.mono hU.size), hb⟩
      rw [HKV.out.1, HKV.out.2.1]
      exact hl h
    obtain ⟨⟨-, -, -⟩, o0, o1, o2, o3, o4, o5, o6, o7⟩ := HSO.out w3 HW2.out
    obtain ⟨m0, m1, m2, m3, m4, m5, m6, -⟩ := rowSeven hrm
    have SO : Hid (∀ U, Below w3.heap.size w3 U → (Below w3.heap.size w3 U ∧ U.cell? ⟨M, 0, none⟩ = some (.slice y1 l1 k1) ∧ U.cell? ⟨M, 1, none⟩ = some (.slice y2 l2 k2) ∧ U.cell? ⟨M, 3, none⟩ = some (.int .i64 lf) ∧ U.cell? ⟨G, 0, none⟩ = some (.int .i64 a) ∧ U.cell? ⟨G, 1, none⟩ = some (.int .i64 b) ∧ U.cell? ⟨G, 2, none⟩ = some (.int .i64 c) ∧ U.cell? ⟨G, 3, none⟩ = some (.int .i64 1) ∧ U.cell? ⟨G, 4, none⟩ = some (.int .i64 p) ∧ U.cell? ⟨G, 5, none⟩ = some (.int .i64 q) ∧ U.cell? ⟨G, 6, none⟩ = some (.int .i64 s) ∧ U.cell? ⟨G, 7, none⟩ = some (.int .i64 t))) := fun U hU => ⟨hU, keeps hU m0, keeps hU m1, keeps hU m3, keeps hU o0, keeps hU o1, keeps hU o2, keeps hU o3, keeps hU o4, keeps hU o5, keeps hU o6, keeps hU o7⟩
    clear hkr hPE hst hke0
    have hlb : (lf == 0) = false := by simp [hl0]
    have HRELA : Hid (∀ W3 x1 x2 b1 b2 e1 e2, Below w3.heap.size w3 W3 → (PE = 0 → LS W3 (.slice x1 b1 e1) (kdoB bs ss ⟨a, b, c, 1, p, q, s, t⟩) ∧ LS W3 (.slice x2 b2 e2) (kdoS bs ss ⟨a, b, c, 1, p, q, s, t⟩)) → (W3.alloc (.cells #[.slice x1 b1 e1, .slice x2 b2 e2] 24)).heap[W3.heap.size]? = some (.cells #[.slice x1 b1 e1, .slice x2 b2 e2] 24 (0, 0)) ∧ (W3.alloc (.cells #[.slice x1 b1 e1, .slice x2 b2 e2] 24)).heap[M]? = some (.cells #[.slice y1 l1 k1, .slice y2 l2 k2, .slice tq tn tc, .int .i64 lf, .int .i64 0, .slice none 0 0, .bool false] 65 (0, 0)) ∧ Aside (Below V.heap.size V (W3.alloc (.cells #[.slice x1 b1 e1, .slice x2 b2 e2] 24)) ∧ (PE = 0 → LS (W3.alloc (.cells #[.slice x1 b1 e1, .slice x2 b2 e2] 24)) (.slice x1 b1 e1) (kdoB bs ss ⟨a, b, c, 1, p, q, s, t⟩) ∧ LS (W3.alloc (.cells #[.slice x1 b1 e1, .slice x2 b2 e2] 24)) (.slice x2 b2 e2) (kdoS bs ss ⟨a, b, c, 1, p, q, s, t⟩)) ∧ OwnT (W3.alloc (.cells #[.slice x1 b1 e1, .slice x2 b2 e2] 24)) V.heap.size (.slice tq tn tc) (metR bs ss ⟨a, b, c, 1, p, q, s, t⟩).2.1)) := fun W3 x1 x2 b1 b2 e1 e2 hB hL => by
      have hBa : Below W3.heap.size W3 (W3.alloc (.cells #[.slice x1 b1 e1, .slice x2 b2 e2] 24)) := (Below.refl _ _).alloc (Nat.le_refl _) _
      have hB2 := hB.trans (hBa.mono hB.size)
      exact ⟨heap_alloc_new W3 _, (hB2.block M (Array.getElem?_eq_some_iff.1 hrm).1).trans hrm, HW2.out.trans (hB2.mono HW2.out.size), fun h => ⟨(hL h).1.below hBa, (hL h).2.below hBa⟩, OwnM.below HTT.out hB2⟩
    have HREL : Hid (∀ W3 x1 x2 b1 b2 e1 e2 X0, Below w3.heap.size w3 W3 → (PE = 0 → LS W3 (.slice x1 b1 e1) (kdoB bs ss ⟨a, b, c, 1, p, q, s, t⟩) ∧ LS W3 (.slice x2 b2 e2) (kdoS bs ss ⟨a, b, c, 1, p, q, s, t⟩)) → w3.heap.size ≤ X0 → W3.heap[X0]? = some (.cells #[.slice none 0 0, .slice none 0 0] 24 (0, 0)) → ((W3.setCell ⟨X0, 0, none⟩ (.slice x1 b1 e1)).setCell ⟨X0, 1, none⟩ (.slice x2 b2 e2)).heap[X0]? = some (.cells #[.slice x1 b1 e1, .slice x2 b2 e2] 24 (0, 0)) ∧ ((W3.setCell ⟨X0, 0, none⟩ (.slice x1 b1 e1)).setCell ⟨X0, 1, none⟩ (.slice x2 b2 e2)).heap[M]? = some (.cells #[.slice y1 l1 k1, .slice y2 l2 k2, .slice tq tn tc, .int .i64 lf, .int .i64 0, .slice none 0 0, .bool false] 65 (0, 0)) ∧ Aside (Below V.heap.size V ((W3.setCell ⟨X0, 0, none⟩ (.slice x1 b1 e1)).setCell ⟨X0, 1, none⟩ (.slice x2 b2 e2)) ∧ (PE = 0 → LS ((W3.setCell ⟨X0, 0, none⟩ (.slice x1 b1 e1)).setCell ⟨X0, 1, none⟩ (.slice x2 b2 e2)) (.slice x1 b1 e1) (kdoB bs ss ⟨a, b, c, 1, p, q, s, t⟩) ∧ LS ((W3.setCell ⟨X0, 0, none⟩ (.slice x1 b1 e1)).setCell ⟨X0, 1, none⟩ (.slice x2 b2 e2)) (.slice x2 b2 e2) (kdoS bs ss ⟨a, b, c, 1, p, q, s, t⟩)) ∧ OwnT ((W3.setCell ⟨X0, 0, none⟩ (.slice x1 b1 e1)).setCell ⟨X0, 1, none⟩ (.slice x2 b2 e2)) V.heap.size (.slice tq tn tc) (metR bs ss ⟨a, b, c, 1, p, q, s, t⟩).2.1)) := fun W3 x1 x2 b1 b2 e1 e2 X0 hB hL hX hr => by
      have hg := grTwo W3 X0 (.slice x1 b1 e1) (.slice x2 b2 e2)
      have hMl := (Array.getElem?_eq_some_iff.1 hrm).1
      have hW3 := HW2.out.trans (hB.mono HW2.out.size)
      have hrm3 := (hB.block M hMl).trans hrm
      have hT3 := OwnM.below HTT.out hB
      refine ⟨setTwo hr _ _, (hg.block M (Array.getElem?_eq_some_iff.1 hrm3).1 (fun e => by cases e; omega)).trans hrm3, hW3.grown hg hW3.size (fun k hk => by cases hk; have h1 := HP.out.2.2.2; omega), fun h => ?_, kept_of hT3 hg (fun z hz e => by cases e; have := (HTL.out X0 hz).2; omega)⟩
      have hb5 := kdo_bookK (HKE.out.trans h)
      exact ⟨ls_off (hL h).1 hg (two_no hr) (book_lv hb5).1, ls_off (hL h).2 hg (two_no hr) (book_lv hb5).2⟩
    go_upto_region 16 with fail
    go_cut [9, 12] from 75 to 87 (fun s9 s12 wx => ∃ x1 x2 b1 b2 e1 e2 X0, s9 = .int .i64 PE ∧ s12 = .pointer (some ⟨X0, 0, none⟩) ∧ wx.heap[X0]? = some (.cells #[.slice x1 b1 e1, .slice x2 b2 e2] 24 (0, 0)) ∧ wx.heap[M]? = some (.cells #[.slice y1 l1 k1, .slice y2 l2 k2, .slice tq tn tc, .int .i64 lf, .int .i64 0, .slice none 0 0, .bool false] 65 (0, 0)) ∧ Aside (Below V.heap.size V wx ∧ (PE = 0 → LS wx (.slice x1 b1 e1) (kdoB bs ss ⟨a, b, c, 1, p, q, s, t⟩) ∧ LS wx (.slice x2 b2 e2) (kdoS bs ss ⟨a, b, c, 1, p, q, s, t⟩)) ∧ OwnT wx V.heap.size (.slice tq tn tc) (metR bs ss ⟨a, b, c, 1, p, q, s, t⟩).2.1))
    case first =>
      go_region_held3 (fun U => Below w3.heap.size w3 U ∧ U.cell? ⟨M, 0, none⟩ = some (.slice y1 l1 k1) ∧ U.cell? ⟨M, 1, none⟩ = some (.slice y2 l2 k2) ∧ U.cell? ⟨M, 3, none⟩ = some (.int .i64 lf) ∧ U.cell? ⟨G, 0, none⟩ = some (.int .i64 a) ∧ U.cell? ⟨G, 1, none⟩ = some (.int .i64 b) ∧ U.cell? ⟨G, 2, none⟩ = some (.int .i64 c) ∧ U.cell? ⟨G, 3, none⟩ = some (.int .i64 1) ∧ U.cell? ⟨G, 4, none⟩ = some (.int .i64 p) ∧ U.cell? ⟨G, 5, none⟩ = some (.int .i64 q) ∧ U.cell? ⟨G, 6, none⟩ = some (.int .i64 s) ∧ U.cell? ⟨G, 7, none⟩ = some (.int .i64 t))
        ((refine SO.out _ ?_; (repeat' (first | with_reducible assumption | with_reducible refine bal ?_ _ | with_reducible refine Below.setCell ?_ ?_ _ | with_reducible refine Below.drew ?_ | with_reducible exact Below.refl _ _ | with_reducible exact Nat.le_refl _ | with_reducible exact Below.size (by with_reducible assumption) | with_reducible refine Nat.le_succ_of_le ?_))))
        (first | (go_at_call 35; with_reducible refine (HKP.out _ ?_).mono ?_; (repeat' (first | with_reducible assumption | with_reducible refine bal ?_ _ | with_reducible refine Below.drew ?_ | with_reducible exact Below.refl _ _ | with_reducible exact Nat.le_refl _ | with_reducible exact Below.size (by with_reducible assumption))); rintro x Wk ⟨rfl, hbk, hbUk⟩; have yk := True.intro; (try (have yk := newBk2 hbUk))) | (go_at_call 15; with_reducible refine (HJO.out _ ?_).mono ?_; (repeat' (first | with_reducible assumption | with_reducible refine bal ?_ _ | with_reducible refine Below.drew ?_ | with_reducible exact Below.refl _ _ | with_reducible exact Nat.le_refl _ | with_reducible exact Below.size (by with_reducible assumption))); rintro x W3 ⟨x1, x2, b1, b2, e1, e2, rfl, hl3, hb3, hbUj⟩; have yj := True.intro; (try (have yj := newBk hbUj)); (try (have yj := (hbUj.block _ (Array.getElem?_eq_some_iff.1 yk).1).trans yk)); (try (have yh := rowTwo yj; obtain ⟨ya, yb, yc⟩ := yh; have yc0 := yc 0; have yc1 := yc 1)); obtain ⟨za, zb, zc⟩ := rowTwo (heap_alloc_new W3 (.cells #[.slice none 0 0, .slice none 0 0] 24)); have zc0 := zc 0; have zc1 := zc 1))
      all_goals go_wp2_with fail
      all_goals go_meet
      all_goals first
        | exact ⟨x1, x2, b1, b2, e1, e2, _, rfl, rfl, HRELA.out W3 x1 x2 b1 b2 e1 e2 hb3 hl3⟩
        | exact ⟨x1, x2, b1, b2, e1, e2, _, rfl, rfl, HREL.out W3 x1 x2 b1 b2 e1 e2 _ hb3 hl3 hbk.size yj⟩
        | exact ⟨x1, x2, b1, b2, e1, e2, _, rfl, rfl, HREL.out W3 x1 x2 b1 b2 e1 e2 _ hb3 hl3 (Nat.le_refl _) yj⟩
    case rest =>
    obtain ⟨x1, x2, b1, b2, e1, e2, X0, rfl, rfl, hrx, hrm4, HA4⟩ := hcut
    have HW4 := hidK HA4.out.1
    have HL4 := hidK HA4.out.2.1
    have HT4 := hidK HA4.out.2.2
    clear HA4 o0 o1 o2 o3 o4 o5 o6 o7 m0 m1 m2 m3 m4 m5 m6 SO HKP HJO HREL HRELA hrm HTT HLB HLS
    by_cases hP0 : PE = 0
    rotate_left
    · have hP1 : (PE != 0) = true := by simp [hP0]
      obtain ⟨hPO, hHX⟩ := HERR.out wc PE HW4.out (HKE.out) hP0
      have HPO := hidK hPO
      have HHX := hidK hHX
      obtain ⟨⟨-, hzr, -⟩, -⟩ := HSO.out wc HW4.out
      obtain ⟨z0, z1, z2, z3, z4, z5, z6, zf⟩ := rowSeven hzr
      have f0 := zf 0
      have f1 := zf 1
      have f2 := zf 2
      have f3 := zf 3
      have f4 := zf 4
      have f5 := zf 5
      have f6 := zf 6
      clear zf hzr hPO hHX HERR HSO HFIN hrm4 hrx hP0
      go_wp2_with fail
      generalize (((((((wc.setCell ⟨Q, 0, none⟩ (.slice none 0 0)).setCell ⟨Q, 1, none⟩ (.slice none 0 0)).setCell ⟨Q, 2, none⟩ (.slice none 0 0)).setCell ⟨Q, 3, none⟩ (.int .i64 0)).setCell ⟨Q, 4, none⟩ (.int .i64 0)).setCell ⟨Q, 5, none⟩ (.slice none 0 0)).setCell ⟨Q, 6, none⟩ (.bool false)) = ZZ at *
      obtain ⟨y0', y1', y2', y3', y4', y5', y6', -⟩ := rowSeven HHX.out
      exact bodyPost_ret (v := .tuple #[.agg #[.slice none 0 0, .slice none 0 0, .slice none 0 0, .int .i64 0, .int .i64 0, .slice none 0 0, .bool false], .int .i64 PE]) (by simp [results, Tryz.results32, go_sem, y0', y1', y2', y3', y4', y5', y6']) rfl HPO.out

    subst hP0
    obtain ⟨v0, v1, -⟩ := rowTwo hrx
    obtain ⟨m0, m1, m2, m3, m4, m5, m6, mf⟩ := rowSeven hrm4
    have mf0 := mf 0
    have mf1 := mf 1
    go_upto_region 20 with fail
    have hg5 := grTwo wc M (.slice x1 b1 e1) (.slice x2 b2 e2)
    have hrm5 := seven_two hrm4 (.slice x1 b1 e1) (.slice x2 b2 e2)
    have hbk5 := kdo_bookK HKE.out
    have HW5 := hidK (HW4.out.grown hg5 HW4.out.size (fun k hk => by cases hk; exact HP.out.2.2.2))
    have HA5 := hidK (ls_off (HL4.out rfl).1 hg5 (met_no hrm4) (book_lv hbk5).1)
    have HB5 := hidK (ls_off (HL4.out rfl).2 hg5 (met_no hrm4) (book_lv hbk5).2)
    have HT5 := hidK (kept_of HT4.out hg5 (fun z hz e => by cases e; have := (HTL.out M hz).2; omega))
    clear v0 v1 m0 m1 m2 m3 m4 m5 m6 mf mf0 mf1 hg5 hrm4 hrx hbk5 HW4 HL4 HT4
    generalize (wc.setCell ⟨M, 0, none⟩ (.slice x1 b1 e1)).setCell ⟨M, 1, none⟩ (.slice x2 b2 e2) = W5 at *
    obtain ⟨m0, m1, m2, m3, m4, m5, m6, -⟩ := rowSeven hrm5
    obtain ⟨hPO, hHX⟩ := HFIN.out W5 x1 x2 b1 b2 e1 e2 lf 0 tq tn tc HW5.out HA5.out HB5.out HT5.out HKE.out HKV.out.2.2
    have HPO := hidK hPO
    have HHX := hidK hHX
    obtain ⟨⟨-, hzr, -⟩, -⟩ := HSO.out W5 HW5.out
    obtain ⟨z0, z1, z2, z3, z4, z5, z6, zf⟩ := rowSeven hzr
    have f0 := zf 0
    have f1 := zf 1
    have f2 := zf 2
    have f3 := zf 3
    have f4 := zf 4
    have f5 := zf 5
    have f6 := zf 6
    clear zf hzr hPO hHX HERR HSO HFIN hrm5
    go_wp2_with fail
    generalize (((((((W5.setCell ⟨Q, 0, none⟩ (.slice x1 b1 e1)).setCell ⟨Q, 1, none⟩ (.slice x2 b2 e2)).setCell ⟨Q, 2, none⟩ (.slice tq tn tc)).setCell ⟨Q, 3, none⟩ (.int .i64 lf)).setCell ⟨Q, 4, none⟩ (.int .i64 0)).setCell ⟨Q, 5, none⟩ (.slice none 0 0)).setCell ⟨Q, 6, none⟩ (.bool false)) = ZZ at *
    obtain ⟨y0', y1', y2', y3', y4', y5', y6', -⟩ := rowSeven HHX.out
    exact bodyPost_ret (v := .tuple #[.agg #[.slice x1 b1 e1, .slice x2 b2 e2, .slice tq tn tc, .int .i64 lf, .int .i64 0, .slice none 0 0, .bool false], .int .i64 0]) (by simp [results, Tryz.results32, go_sem, y0', y1', y2', y3', y4', y5', y6']) rfl HPO.out

  have hd23 : d = 2 ∨ d = 3 := by
    have h := HKD.out
    have h5 := HD5.out
    omega
  have hst : stayB ⟨a, b, c, d, p, q, s, t⟩ lf = false := by
    unfold stayB mayK
    rcases hd23 with rfl | rfl <;> simp
  have HKV := hidK (show kdoE bs ss ⟨a, b, c, d, p, q, s, t⟩ = 0 ∧ kdoB bs ss ⟨a, b, c, d, p, q, s, t⟩ = metB bs ss ⟨a, b, c, d, p, q, s, t⟩ ∧ kdoS bs ss ⟨a, b, c, d, p, q, s, t⟩ = metS bs ss ⟨a, b, c, d, p, q, s, t⟩ ∧ kdoG bs ss ⟨a, b, c, d, p, q, s, t⟩ = lf by
    unfold kdoE kdoB kdoS kdoG setB setS setG setE
    rw [if_pos HDZ.out, HLF.out, if_pos HRF.out, hst]
    exact ⟨rfl, rfl, rfl, rfl⟩)
  have hd1b : (d != 1) = true := by simp [hd1]
  have hd5c : (d != 5) = true := by simp [HD5.out]
  have mf4 := frozen_of_row w3 M 4 _ _ hrm
  clear hd23 hst hn4 hd1
  go_upto_region 15 with fail
  have hg5 := gr_setCell w3 M 4 (.int .i64 lf)
  have hrm5 : (w3.setCell ⟨M, 4, none⟩ (.int .i64 lf)).heap[M]? = some (.cells #[.slice y1 l1 k1, .slice y2 l2 k2, .slice tq tn tc, .int .i64 lf, .int .i64 lf, .slice none 0 0, .bool false] 65 (0, 0)) := by
    have h0 := heap_setCell_same _ M 4 _ _ (.int .i64 lf) hrm
    simp only [List.setIfInBounds_toArray, List.set_cons_zero, List.set_cons_succ] at h0
    exact h0
  have HW5 := hidK (HW2.out.grown hg5 HW2.out.size (fun k hk => by cases hk; exact HP.out.2.2.2))
  have HA5 := hidK (ls_off HLB.out hg5 (met_no hrm) (book_lv HMB.out).1)
  have HB5 := hidK (ls_off HLS.out hg5 (met_no hrm) (book_lv HMB.out).2)
  have HT5 := hidK (kept_of HTT.out hg5 (fun z hz e => by cases e; have := (HTL.out M hz).2; omega))
  clear o0 o1 o2 o3 o4 o5 o6 o7 m0 m1 m2 m3 m4 m5 m6 mf4 hg5 hrm HLB HLS HTT
  generalize w3.setCell ⟨M, 4, none⟩ (.int .i64 lf) = W5 at *
  obtain ⟨m0, m1, m2, m3, m4, m5, m6, -⟩ := rowSeven hrm5
  obtain ⟨hPO, hHX⟩ := HFIN.out W5 y1 y2 l1 l2 k1 k2 lf lf tq tn tc HW5.out (by rw [HKV.out.2.1]; exact HA5.out) (by rw [HKV.out.2.2.1]; exact HB5.out) HT5.out HKV.out.1 HKV.out.2.2.2
  have HPO := hidK hPO
  have HHX := hidK hHX
  obtain ⟨⟨-, hzr, -⟩, -⟩ := HSO.out W5 HW5.out
  obtain ⟨z0, z1, z2, z3, z4, z5, z6, zf⟩ := rowSeven hzr
  have f0 := zf 0
  have f1 := zf 1
  have f2 := zf 2
  have f3 := zf 3
  have f4 := zf 4
  have f5 := zf 5
  have f6 := zf 6
  clear zf hzr hPO hHX HERR HSO HFIN hrm5
  go_wp2_with fail
  generalize (((((((W5.setCell ⟨Q, 0, none⟩ (.slice y1 l1 k1)).setCell ⟨Q, 1, none⟩ (.slice y2 l2 k2)).setCell ⟨Q, 2, none⟩ (.slice tq tn tc)).setCell ⟨Q, 3, none⟩ (.int .i64 lf)).setCell ⟨Q, 4, none⟩ (.int .i64 lf)).setCell ⟨Q, 5, none⟩ (.slice none 0 0)).setCell ⟨Q, 6, none⟩ (.bool false)) = ZZ at *
  obtain ⟨y0', y1', y2', y3', y4', y5', y6', -⟩ := rowSeven HHX.out
  exact bodyPost_ret (v := .tuple #[.agg #[.slice y1 l1 k1, .slice y2 l2 k2, .slice tq tn tc, .int .i64 lf, .int .i64 lf, .slice none 0 0, .bool false], .int .i64 0]) (by simp [results, Tryz.results32, go_sem, y0', y1', y2', y3', y4', y5', y6']) rfl HPO.out

end Go.Proofs.YtpbbgbjgndikdaaGreatDoor.kin
namespace Go.Proofs.YtpbbgbjgndikdaaGreatDoor.kindsTell
open Go.RowKit Go.Proofs.YtpbbgbjgndikdaaGreatDoor.spn Go.Proofs.YtpbbgbjgndikdaaGreatDoor.que Go.Proofs.YtpbbgbjgndikdaaGreatDoor.sid Go.Proofs.YtpbbgbjgndikdaaGreatDoor.bok Go.Proofs.YtpbbgbjgndikdaaGreatDoor.mee Go.Proofs.YtpbbgbjgndikdaaGreatDoor.kin
open Go.Proofs.YtpbbgbjgndikdaaGreatDoor.ord (O oV mB mE chk rord_any ref_may)

theorem int_eqK {a b : Int} (h : a = b) : (Value.int .i64 a) = .int .i64 b := by rw [h]
theorem bool_eqK {a b : Bool} (h : a = b) : Value.bool a = .bool b := by rw [h]
def kBk (bs ss : List L) (o : O) : List L := if kdoE bs ss o = 0 then kdoB bs ss o else []
def kSl (bs ss : List L) (o : O) : List L := if kdoE bs ss o = 0 then kdoS bs ss o else []
def kTr (bs ss : List L) (o : O) : List T := if kdoE bs ss o = 0 then (metR bs ss o).2.1 else []
def kGn (bs ss : List L) (o : O) : Int := if kdoE bs ss o = 0 then kdoG bs ss o else 0
theorem ownT_nilK (w : World) (base : Nat) : OwnT w base (.slice none 0 0) [] := ⟨rfl, .inl ⟨rfl, rfl⟩⟩
theorem kdo_one (q1 q2 : Option Addr) (n1 n2 c1 c2 : Nat) (bs ss : List L) (a b c d p q s t : Int) (w : World) (h1 : LS w (.slice q1 n1 c1) bs) (h2 : LS w (.slice q2 n2 c2) ss) :
    Calls Tryz.prog 33 #[.agg #[.slice q1 n1 c1, .slice q2 n2 c2], .agg #[.int .i64 a, .int .i64 b, .int .i64 c, .int .i64 d, .int .i64 p, .int .i64 q, .int .i64 s, .int .i64 t]] w fun e w' => ∃ u1 u2 m1 m2 k1 k2 tq tn tc, e = .returned (.tuple #[.agg #[.slice u1 m1 k1, .slice u2 m2 k2], .slice tq tn tc, .int .i64 (kGn bs ss ⟨a, b, c, d, p, q, s, t⟩), errV (kdoE bs ss ⟨a, b, c, d, p, q, s, t⟩)]) ∧ LS w' (.slice u1 m1 k1) (kBk bs ss ⟨a, b, c, d, p, q, s, t⟩) ∧ LS w' (.slice u2 m2 k2) (kSl bs ss ⟨a, b, c, d, p, q, s, t⟩) ∧ OwnT w' w.heap.size (.slice tq tn tc) (kTr bs ss ⟨a, b, c, d, p, q, s, t⟩) ∧ Below w.heap.size w w' := by
  refine (kdo_any q1 q2 n1 n2 c1 c2 bs ss a b c d p q s t w h1 h2).mono ?_
  rintro e w' ⟨i1, i2, i3⟩
  unfold kBk kSl kTr kGn
  by_cases hD : kdoE bs ss ⟨a, b, c, d, p, q, s, t⟩ = 0
  · obtain ⟨u1, u2, m1, m2, k1, k2, tv, rfl, g1, g2, g3⟩ := i1 hD
    obtain ⟨tq, tc, hf⟩ := OwnM.form g3
    subst hf
    rw [if_pos hD, if_pos hD, if_pos hD, if_pos hD]
    exact ⟨u1, u2, m1, m2, k1, k2, tq, _, tc, by rw [hD]; rfl, g1.ls, g2.ls, g3, i3⟩
  · rw [if_neg hD, if_neg hD, if_neg hD, if_neg hD]
    exact ⟨none, none, 0, 0, 0, 0, none, 0, 0, i2 hD, ls_nil _, ls_nil _, ownT_nilK _ _, i3⟩
theorem err_oneK (k : Int) (B wx : World) (h : told.Inv B wx) :
    Calls Tryz.prog 7 #[errV k, .int .i64 k] wx fun ev w' => ev = .returned (.bool true) ∧ Below wx.heap.size wx w' := by
  refine (told.error_any wx k k wx (told.Inv.start h.laid)).mono ?_
  rintro e w' ⟨rfl, h'⟩
  exact ⟨by rw [beq_self_eq_true], h'.2⟩
theorem kTr_len {bs ss : List L} {o : O} : (kTr bs ss o).length ≤ 400 := by
  unfold kTr
  by_cases hD : kdoE bs ss o = 0
  · rw [if_pos hD]; exact (doE_zero (kdo_zero hD).1).2
  · rw [if_neg hD]; simp
theorem kdo_come {bs ss : List L} {o : O} (h : ¬ comeE bs ss o = 0) : kdoE bs ss o = comeE bs ss o := by
  have hd : doE bs ss o = comeE bs ss o := by unfold doE; rw [if_neg h]
  unfold kdoE
  rw [hd, if_neg h]

set_option maxRecDepth 100000 in
set_option maxHeartbeats 8000000 in
theorem walk0 (q1 q2 : Option Addr) (n1 n2 c1 c2 : Nat) (bs ss : List L) (a b c d p q s t kq : Int) (B w : World) (hI : told.Inv B w) (h1 : LS w (.slice q1 n1 c1) bs) (h2 : LS w (.slice q2 n2 c2) ss) :
    Calls Tryz.prog 5 #[.agg #[.slice q1 n1 c1, .slice q2 n2 c2], .agg #[.int .i64 a, .int .i64 b, .int .i64 c, .int .i64 d, .int .i64 p, .int .i64 q, .int .i64 s, .int .i64 t], .int .i64 kq] w fun e w' => e = .returned (.bool true) ∧ told.Inv B w' := by
  obtain ⟨V, hV⟩ : ∃ V, V = (w.alloc (.cells #[.slice q1 n1 c1, .slice q2 n2 c2] 24)).alloc (.cells #[.int .i64 a, .int .i64 b, .int .i64 c, .int .i64 d, .int .i64 p, .int .i64 q, .int .i64 s, .int .i64 t] 60) := ⟨_, rfl⟩
  have HB : Hid (Below w.heap.size w V) := by rw [hV]; exact ((Below.refl _ _).alloc (Nat.le_refl _) _).alloc (by simp) _
  have v0 : V.cell? ⟨w.heap.size, 0, none⟩ = some (.slice q1 n1 c1) := by rw [hV]; simp [go_sem]
  have v1 : V.cell? ⟨w.heap.size, 1, none⟩ = some (.slice q2 n2 c2) := by rw [hV]; simp [go_sem]
  have hR : V.heap[w.heap.size + 1]? = some (.cells #[.int .i64 a, .int .i64 b, .int .i64 c, .int .i64 d, .int .i64 p, .int .i64 q, .int .i64 s, .int .i64 t] 60 (0, 0)) := by
    rw [hV]
    have := heap_alloc_new (w.alloc (.cells #[.slice q1 n1 c1, .slice q2 n2 c2] 24)) (.cells #[.int .i64 a, .int .i64 b, .int .i64 c, .int .i64 d, .int .i64 p, .int .i64 q, .int .i64 s, .int .i64 t] 60)
    simpa using this
  have cel : ∀ i, V.cell? ⟨w.heap.size + 1, i, none⟩ = (#[.int .i64 a, .int .i64 b, .int .i64 c, .int .i64 d, .int .i64 p, .int .i64 q, .int .i64 s, .int .i64 t] : Array Value)[i]? := fun i => by simp [World.cell?, hR]
  have HSO : Hid (∀ W, Below V.heap.size V W → (Below w.heap.size w W ∧ told.Inv B W ∧ LS W (.slice q1 n1 c1) bs ∧ LS W (.slice q2 n2 c2) ss) ∧ W.cell? ⟨w.heap.size, 0, none⟩ = some (.slice q1 n1 c1) ∧ W.cell? ⟨w.heap.size, 1, none⟩ = some (.slice q2 n2 c2) ∧ W.cell? ⟨w.heap.size + 1, 0, none⟩ = some (.int .i64 a) ∧ W.cell? ⟨w.heap.size + 1, 1, none⟩ = some (.int .i64 b) ∧ W.cell? ⟨w.heap.size + 1, 2, none⟩ = some (.int .i64 c) ∧ W.cell? ⟨w.heap.size + 1, 3, none⟩ = some (.int .i64 d) ∧ W.cell? ⟨w.heap.size + 1, 4, none⟩ = some (.int .i64 p) ∧ W.cell? ⟨w.heap.size + 1, 5, none⟩ = some (.int .i64 q) ∧ W.cell? ⟨w.heap.size + 1, 6, none⟩ = some (.int .i64 s) ∧ W.cell? ⟨w.heap.size + 1, 7, none⟩ = some (.int .i64 t)) :=
    fun W hW => by
      have hw := HB.out.trans (hW.mono HB.out.size)
      exact ⟨⟨hw, hI.on hw, h1.below hw, h2.below hw⟩, keeps hW v0, keeps hW v1, keeps hW (cel 0), keeps hW (cel 1), keeps hW (cel 2), keeps hW (cel 3), keeps hW (cel 4), keeps hW (cel 5), keeps hW (cel 6), keeps hW (cel 7)⟩
  have HLW : Hid (LS w (.slice q1 n1 c1) bs ∧ LS w (.slice q2 n2 c2) ss) := ⟨h1, h2⟩
  clear h1 h2 hI v0 v1 hR cel
  obtain ⟨-, x0, x1, o0, o1, o2, o3, o4, o5, o6, o7⟩ := HSO.out V (Below.refl _ _)
  have HLV : Hid (LS V (.slice q1 n1 c1) bs ∧ LS V (.slice q2 n2 c2) ss) := (HSO.out V (Below.refl _ _)).1.2.2
  go_enter Tryz.func5, Tryz.ntmps5
  go_wp2_with fail
  rw [← hV]
  clear hV
  refine (rcomes_any q1 q2 n1 n2 c1 c2 bs ss a b c d p q s t V HLV.out.1 HLV.out.2).mono ?_
  rintro e w1 ⟨rfl, b1⟩
  have hBa : Below w1.heap.size w1 (w1.alloc (.cells #[.slice none 0 0, .slice none 0 0, .slice none 0 0, .int .i64 0, .int .i64 0, .slice none 0 0, .bool false] 65)) := (Below.refl _ _).alloc (Nat.le_refl _) _
  have hRM : (w1.alloc (.cells #[.slice none 0 0, .slice none 0 0, .slice none 0 0, .int .i64 0, .int .i64 0, .slice none 0 0, .bool false] 65)).heap[w1.heap.size]? = some (.cells #[.slice none 0 0, .slice none 0 0, .slice none 0 0, .int .i64 0, .int .i64 0, .slice none 0 0, .bool false] 65 (0, 0)) := heap_alloc_new w1 _
  have HW2 := hidK (b1.trans (hBa.mono b1.size))
  have HSZ := hidK (show V.heap.size ≤ w1.heap.size ∧ w.heap.size ≤ w1.heap.size from ⟨b1.size, Nat.le_trans HB.out.size b1.size⟩)
  obtain ⟨E, hE⟩ : ∃ E, comeE bs ss ⟨a, b, c, d, p, q, s, t⟩ = E := ⟨_, rfl⟩
  obtain ⟨D, hD⟩ : ∃ D, kdoE bs ss ⟨a, b, c, d, p, q, s, t⟩ = D := ⟨_, rfl⟩
  obtain ⟨GN, hGN⟩ : ∃ GN, kGn bs ss ⟨a, b, c, d, p, q, s, t⟩ = GN := ⟨_, rfl⟩
  have HE := hidK hE
  have HD := hidK hD
  have HGN := hidK hGN
  rw [hE]
  clear x0 x1 o0 o1 o2 o3 o4 o5 o6 o7 b1 hBa HLV hE hD hGN
  go_upto_if 23 with fail
  generalize w1.alloc (.cells #[.slice none 0 0, .slice none 0 0, .slice none 0 0, .int .i64 0, .int .i64 0, .slice none 0 0, .bool false] 65) = W2 at *
  generalize w1.heap.size = M0 at *
  go_cut [7] from 23 to 29 (fun s7 wx => ∃ y1 y2 l1 l2 k1 k2 tq tn tc lf, s7 = .int .i64 D ∧ wx.heap[M0]? = some (.cells #[.slice y1 l1 k1, .slice y2 l2 k2, .slice tq tn tc, .int .i64 lf, .int .i64 GN, .slice none 0 0, .bool false] 65 (0, 0)) ∧ Aside (Below V.heap.size V wx ∧ LS wx (.slice y1 l1 k1) (kBk bs ss ⟨a, b, c, d, p, q, s, t⟩) ∧ LS wx (.slice y2 l2 k2) (kSl bs ss ⟨a, b, c, d, p, q, s, t⟩) ∧ OwnT wx M0 (.slice tq tn tc) (kTr bs ss ⟨a, b, c, d, p, q, s, t⟩)))
  case first =>
    obtain ⟨z0, z1, z2, z3, z4, z5, z6, zf⟩ := rowSeven hRM
    by_cases h0 : E = 0
    · subst h0
      obtain ⟨⟨-, -, hL1, hL2⟩, x0, x1, o0, o1, o2, o3, o4, o5, o6, o7⟩ := HSO.out W2 HW2.out
      have HME := hidK (rcome_any q1 q2 n1 n2 c1 c2 bs ss a b c d p q s t W2 hL1 hL2 HE.out)
      clear hL1 hL2
      go_wp2_with fail
      refine HME.out.mono ?_
      rintro e w3 ⟨i1, i2, b3⟩
      have hW3 := HW2.out.trans (b3.mono HW2.out.size)
      have hR3 := (b3.block M0 (Array.getElem?_eq_some_iff.1 hRM).1).trans hRM
      have hM2 : M0 < W2.heap.size := (Array.getElem?_eq_some_iff.1 hRM).1
      clear z0 z1 z2 z3 z4 z5 z6 zf x0 x1 o0 o1 o2 o3 o4 o5 o6 o7 HME
      obtain ⟨z0, z1, z2, z3, z4, z5, z6, zf⟩ := rowSeven hR3
      have f0 := zf 0
      have f1 := zf 1
      have f2 := zf 2
      have f3 := zf 3
      have f4 := zf 4
      have f5 := zf 5
      have f6 := zf 6
      have hB0 : V.heap.size ≤ M0 := HSZ.out.1
      by_cases hK : kdoE bs ss ⟨a, b, c, d, p, q, s, t⟩ = 0
      · obtain ⟨y1, y2, l1, l2, k1, k2, tv, lf, rfl, g1, g2, g3⟩ := i1 hK
        have hDD : D = 0 := by rw [← HD.out]; exact hK
        subst hDD
        have eG : kdoG bs ss ⟨a, b, c, d, p, q, s, t⟩ = GN := by rw [← HGN.out]; unfold kGn; rw [if_pos hK]
        have eB : kBk bs ss ⟨a, b, c, d, p, q, s, t⟩ = kdoB bs ss ⟨a, b, c, d, p, q, s, t⟩ := by unfold kBk; rw [if_pos hK]
        have eS : kSl bs ss ⟨a, b, c, d, p, q, s, t⟩ = kdoS bs ss ⟨a, b, c, d, p, q, s, t⟩ := by unfold kSl; rw [if_pos hK]
        have eT : kTr bs ss ⟨a, b, c, d, p, q, s, t⟩ = (metR bs ss ⟨a, b, c, d, p, q, s, t⟩).2.1 := by unfold kTr; rw [if_pos hK]
        rw [← eT] at g3
        obtain ⟨tq, tc, hf⟩ := OwnM.form g3
        subst hf
        rw [eG]
        generalize hln : (kTr bs ss ⟨a, b, c, d, p, q, s, t⟩).length = tn at *
        have hset := setSeven hR3 (.slice y1 l1 k1) (.slice y2 l2 k2) (.slice tq tn tc) (.int .i64 lf) (.int .i64 GN) (.slice none 0 0) (.bool false)
        have hgr := grSeven w3 M0 (.slice y1 l1 k1) (.slice y2 l2 k2) (.slice tq tn tc) (.int .i64 lf) (.int .i64 GN) (.slice none 0 0) (.bool false)
        have hlv := book_lv (kdo_bookK hK)
        have HFIN := hidK (show Below V.heap.size V (((((((w3.setCell ⟨M0, 0, none⟩ (.slice y1 l1 k1)).setCell ⟨M0, 1, none⟩ (.slice y2 l2 k2)).setCell ⟨M0, 2, none⟩ (.slice tq tn tc)).setCell ⟨M0, 3, none⟩ (.int .i64 lf)).setCell ⟨M0, 4, none⟩ (.int .i64 GN)).setCell ⟨M0, 5, none⟩ (.slice none 0 0)).setCell ⟨M0, 6, none⟩ (.bool false)) ∧ LS (((((((w3.setCell ⟨M0, 0, none⟩ (.slice y1 l1 k1)).setCell ⟨M0, 1, none⟩ (.slice y2 l2 k2)).setCell ⟨M0, 2, none⟩ (.slice tq tn tc)).setCell ⟨M0, 3, none⟩ (.int .i64 lf)).setCell ⟨M0, 4, none⟩ (.int .i64 GN)).setCell ⟨M0, 5, none⟩ (.slice none 0 0)).setCell ⟨M0, 6, none⟩ (.bool false)) (.slice y1 l1 k1) (kBk bs ss ⟨a, b, c, d, p, q, s, t⟩) ∧ LS (((((((w3.setCell ⟨M0, 0, none⟩ (.slice y1 l1 k1)).setCell ⟨M0, 1, none⟩ (.slice y2 l2 k2)).setCell ⟨M0, 2, none⟩ (.slice tq tn tc)).setCell ⟨M0, 3, none⟩ (.int .i64 lf)).setCell ⟨M0, 4, none⟩ (.int .i64 GN)).setCell ⟨M0, 5, none⟩ (.slice none 0 0)).setCell ⟨M0, 6, none⟩ (.bool false)) (.slice y2 l2 k2) (kSl bs ss ⟨a, b, c, d, p, q, s, t⟩) ∧ OwnT (((((((w3.setCell ⟨M0, 0, none⟩ (.slice y1 l1 k1)).setCell ⟨M0, 1, none⟩ (.slice y2 l2 k2)).setCell ⟨M0, 2, none⟩ (.slice tq tn tc)).setCell ⟨M0, 3, none⟩ (.int .i64 lf)).setCell ⟨M0, 4, none⟩ (.int .i64 GN)).setCell ⟨M0, 5, none⟩ (.slice none 0 0)).setCell ⟨M0, 6, none⟩ (.bool false)) M0 (.slice tq tn tc) (kTr bs ss ⟨a, b, c, d, p, q, s, t⟩) from
          ⟨hW3.grown hgr hW3.size (fun k hk => by cases hk; exact hB0), by rw [eB]; exact ls_off g1 hgr (met_no hR3) hlv.1, by rw [eS]; exact ls_off g2 hgr (met_no hR3) hlv.2, OwnM.mono (kept_of g3 hgr (fun z hz e => by cases e; have := (OwnM.lt g3 M0 hz).1; omega)) (by omega)⟩)
        have HHX := hidK hset
        clear hset hgr g1 g2 g3 i1 i2 b3 zf hR3 hW3 hln eG eB eS eT hK hlv
        go_wp2_with fail
        go_meet
        case rel => exact ⟨y1, y2, l1, l2, k1, k2, tq, tn, tc, lf, rfl, HHX.out, HFIN.out⟩
      · have e2 := i2 hK
        subst e2
        rw [HD.out]
        have hset := setSeven hR3 (.slice none 0 0) (.slice none 0 0) (.slice none 0 0) (.int .i64 0) (.int .i64 0) (.slice none 0 0) (.bool false)
        have hgr := grSeven w3 M0 (.slice none 0 0) (.slice none 0 0) (.slice none 0 0) (.int .i64 0) (.int .i64 0) (.slice none 0 0) (.bool false)
        have HFIN := hidK (hW3.grown hgr hW3.size (fun k hk => by cases hk; exact hB0))
        have HHX := hidK hset
        have HEQ := hidK (show GN = 0 ∧ kBk bs ss ⟨a, b, c, d, p, q, s, t⟩ = [] ∧ kSl bs ss ⟨a, b, c, d, p, q, s, t⟩ = [] ∧ kTr bs ss ⟨a, b, c, d, p, q, s, t⟩ = [] from ⟨by rw [← HGN.out]; unfold kGn; rw [if_neg hK], by unfold kBk; rw [if_neg hK], by unfold kSl; rw [if_neg hK], by unfold kTr; rw [if_neg hK]⟩)
        clear hset hgr i1 i2 b3 zf hR3 hW3 hK
        go_wp2_with fail
        go_meet
        case rel =>
          refine ⟨none, none, 0, 0, 0, 0, none, 0, 0, 0, rfl, by rw [HEQ.out.1]; exact HHX.out, HFIN.out, ?_⟩
          rw [HEQ.out.2.1, HEQ.out.2.2.1, HEQ.out.2.2.2]
          exact ⟨ls_nil _, ls_nil _, ownT_nilK _ _⟩
    · have h0' : (E == 0) = false := by simp [h0]
      have hDE : D = E := by rw [← HD.out, ← HE.out]; exact kdo_come (by rw [HE.out]; exact h0)
      subst hDE
      have hne : ¬ kdoE bs ss ⟨a, b, c, d, p, q, s, t⟩ = 0 := by rw [HD.out]; exact h0
      have HEQ := hidK (show GN = 0 ∧ kBk bs ss ⟨a, b, c, d, p, q, s, t⟩ = [] ∧ kSl bs ss ⟨a, b, c, d, p, q, s, t⟩ = [] ∧ kTr bs ss ⟨a, b, c, d, p, q, s, t⟩ = [] from ⟨by rw [← HGN.out]; unfold kGn; rw [if_neg hne], by unfold kBk; rw [if_neg hne], by unfold kSl; rw [if_neg hne], by unfold kTr; rw [if_neg hne]⟩)
      have HRM := hidK hRM
      clear zf hne
      go_wp2_with fail
      go_meet
      case rel =>
        refine ⟨none, none, 0, 0, 0, 0, none, 0, 0, 0, rfl, by rw [HEQ.out.1]; exact HRM.out, HW2.out, ?_⟩
        rw [HEQ.out.2.1, HEQ.out.2.2.1, HEQ.out.2.2.2]
        exact ⟨ls_nil _, ls_nil _, ownT_nilK _ _⟩
  case rest =>
  obtain ⟨y1, y2, l1, l2, k1, k2, tq, tn, tc, lf, rfl, hRM3, HA⟩ := hcut
  have HW3 := hidK HA.out.1
  have HME := hidK HA.out.2
  clear HA hRM HW2
  obtain ⟨⟨-, -, hL1, hL2⟩, x0, x1, o0, o1, o2, o3, o4, o5, o6, o7⟩ := HSO.out wc HW3.out
  have HDO := hidK (kdo_one q1 q2 n1 n2 c1 c2 bs ss a b c d p q s t wc hL1 hL2)
  rw [HD.out, HGN.out] at HDO
  clear hL1 hL2
  go_wp2_with fail
  refine HDO.out.mono ?_
  rintro e w4 ⟨u1, u2, m1, m2, j1, j2, sq, sn, sc, rfl, g1, g2, g3, b4⟩
  have hBa : Below w4.heap.size w4 (w4.alloc (.cells #[.slice u1 m1 j1, .slice u2 m2 j2] 24)) := (Below.refl _ _).alloc (Nat.le_refl _) _
  have hb4 := b4.trans (hBa.mono b4.size)
  have hRX : (w4.alloc (.cells #[.slice u1 m1 j1, .slice u2 m2 j2] 24)).heap[w4.heap.size]? = some (.cells #[.slice u1 m1 j1, .slice u2 m2 j2] 24 (0, 0)) := heap_alloc_new w4 _
  have HW5 := hidK (HW3.out.trans (hb4.mono HW3.out.size))
  have HX5 := hidK (show LS (w4.alloc (.cells #[.slice u1 m1 j1, .slice u2 m2 j2] 24)) (.slice u1 m1 j1) (kBk bs ss ⟨a, b, c, d, p, q, s, t⟩) ∧ LS (w4.alloc (.cells #[.slice u1 m1 j1, .slice u2 m2 j2] 24)) (.slice u2 m2 j2) (kSl bs ss ⟨a, b, c, d, p, q, s, t⟩) ∧ OwnT (w4.alloc (.cells #[.slice u1 m1 j1, .slice u2 m2 j2] 24)) wc.heap.size (.slice sq sn sc) (kTr bs ss ⟨a, b, c, d, p, q, s, t⟩) from ⟨g1.below hBa, g2.below hBa, OwnM.below g3 hBa⟩)
  have HM5 := hidK (show LS (w4.alloc (.cells #[.slice u1 m1 j1, .slice u2 m2 j2] 24)) (.slice y1 l1 k1) (kBk bs ss ⟨a, b, c, d, p, q, s, t⟩) ∧ LS (w4.alloc (.cells #[.slice u1 m1 j1, .slice u2 m2 j2] 24)) (.slice y2 l2 k2) (kSl bs ss ⟨a, b, c, d, p, q, s, t⟩) ∧ OwnT (w4.alloc (.cells #[.slice u1 m1 j1, .slice u2 m2 j2] 24)) M0 (.slice tq tn tc) (kTr bs ss ⟨a, b, c, d, p, q, s, t⟩) from ⟨HME.out.1.below hb4, HME.out.2.1.below hb4, OwnM.below HME.out.2.2 hb4⟩)
  have hRM5 := (hb4.block M0 (Array.getElem?_eq_some_iff.1 hRM3).1).trans hRM3
  clear x0 x1 o0 o1 o2 o3 o4 o5 o6 o7 hBa hb4 b4 g1 g2 g3 hRM3 HME HDO HW3
  go_upto_region 6 with fail
  generalize w4.alloc (.cells #[.slice u1 m1 j1, .slice u2 m2 j2] 24) = W5 at *
  generalize w4.heap.size = X0 at *
  obtain ⟨⟨-, hI5, -, -⟩, -⟩ := HSO.out W5 HW5.out
  have HE7 := hidK (err_oneK D B W5 hI5)
  clear hI5
  generalize hEV : errV D = EV at *
  clear hEV
  go_wp2_with fail
  refine HE7.out.mono ?_
  rintro e w6 ⟨rfl, b6⟩
  have HW6 := hidK (HW5.out.trans (b6.mono HW5.out.size))
  have HX6 := hidK (show LS w6 (.slice u1 m1 j1) (kBk bs ss ⟨a, b, c, d, p, q, s, t⟩) ∧ LS w6 (.slice u2 m2 j2) (kSl bs ss ⟨a, b, c, d, p, q, s, t⟩) ∧ OwnT w6 wc.heap.size (.slice sq sn sc) (kTr bs ss ⟨a, b, c, d, p, q, s, t⟩) from ⟨HX5.out.1.below b6, HX5.out.2.1.below b6, OwnM.below HX5.out.2.2 b6⟩)
  have HM6 := hidK (show LS w6 (.slice y1 l1 k1) (kBk bs ss ⟨a, b, c, d, p, q, s, t⟩) ∧ LS w6 (.slice y2 l2 k2) (kSl bs ss ⟨a, b, c, d, p, q, s, t⟩) ∧ OwnT w6 M0 (.slice tq tn tc) (kTr bs ss ⟨a, b, c, d, p, q, s, t⟩) from ⟨HM5.out.1.below b6, HM5.out.2.1.below b6, OwnM.below HM5.out.2.2 b6⟩)
  have hRM6 := (b6.block M0 (Array.getElem?_eq_some_iff.1 hRM5).1).trans hRM5
  have hRX6 := (b6.block X0 (Array.getElem?_eq_some_iff.1 hRX).1).trans hRX
  clear b6 hRM5 hRX HM5 HX5 HE7 HW5
  obtain ⟨z0, z1, z2, z3, z4, z5, z6, -⟩ := rowSeven hRM6
  obtain ⟨t0, t1, -⟩ := rowTwo hRX6
  go_wp2_with fail
  refine (book_same u1 u2 y1 y2 m1 m2 j1 j2 l1 l2 k1 k2 _ _ w6 HX6.out.1 HX6.out.2.1 HM6.out.1 HM6.out.2.1).mono ?_
  rintro e w7 ⟨rfl, b7⟩
  have HW7 := hidK (HW6.out.trans (b7.mono HW6.out.size))
  have HT7 := hidK (OwnM.below HX6.out.2.2 b7)
  have HM7 := hidK (OwnM.below HM6.out.2.2 b7)
  have hRM7 := (b7.block M0 (Array.getElem?_eq_some_iff.1 hRM6).1).trans hRM6
  clear b7 hRM6 hRX6 HM6 HX6 HW6 z0 z1 z2 z3 z4 z5 z6 t0 t1
  obtain ⟨z0, z1, z2, z3, z4, z5, z6, -⟩ := rowSeven hRM7
  have HN4 := hidK (show (kTr bs ss ⟨a, b, c, d, p, q, s, t⟩).length ≤ 9223372036854775807 by have := kTr_len (bs := bs) (ss := ss) (o := ⟨a, b, c, d, p, q, s, t⟩); omega)
  go_wp2_with fail
  refine (trades_same sq tq sn tn sc tc _ _ _ w7 HN4.out HT7.out HM7.out).mono ?_
  rintro e w8 ⟨rfl, b8⟩
  have HW8 := hidK (HW7.out.trans (b8.mono HW7.out.size))
  have hRM8 := (b8.block M0 (Array.getElem?_eq_some_iff.1 hRM7).1).trans hRM7
  clear b8 hRM7 HM7 HT7 HW7 z0 z1 z2 z3 z4 z5 z6 HN4
  obtain ⟨-, x0, x1, o0, o1, o2, o3, o4, o5, o6, o7⟩ := HSO.out w8 HW8.out
  obtain ⟨C, hC⟩ : ∃ C, chk ⟨a, b, c, d, p, q, s, t⟩ = C := ⟨_, rfl⟩
  have HC := hidK hC
  have HOR := hidK (rord_any ⟨a, b, c, d, p, q, s, t⟩ w8)
  rw [hC] at HOR
  clear hC
  go_wp2_with fail
  refine HOR.out.mono ?_
  rintro e w9 ⟨rfl, b9⟩
  have HW9 := hidK (HW8.out.trans (b9.mono HW8.out.size))
  have hRM9 := (b9.block M0 (Array.getElem?_eq_some_iff.1 hRM8).1).trans hRM8
  clear b9 hRM8 HW8 HOR x0 x1 o0 o1 o2 o3 o4 o5 o6 o7
  obtain ⟨-, x0, x1, o0, o1, o2, o3, o4, o5, o6, o7⟩ := HSO.out w9 HW9.out
  obtain ⟨RE, hRE⟩ : ∃ RE, restE ⟨a, b, c, d, p, q, s, t⟩ kq = RE := ⟨_, rfl⟩
  have HRE := hidK hRE
  have hre2 : (if C = 0 then (if 1 ≤ kq ∧ kq ≤ q then 0 else 1) else C) = RE := by rw [← hRE, ← HC.out]; rfl
  have HR2 := hidK hre2
  clear hRE hre2
  go_upto_region 10 with fail
  go_cut [62] from 51 to 62 (fun s62 wx => s62 = .bool (decide (C = 0 ∧ (kq < 1 ∨ q < kq))) ∧ wx = w9)
  case first =>
    by_cases h0 : C = 0
    · subst h0
      by_cases h1 : kq < 1
      · go_wp2_with fail
        go_meet
        case rel => exact ⟨bool_eqK (by simp [h1]), rfl⟩
      · by_cases h2 : q < kq
        · go_wp2_with fail
          go_meet
          case rel => exact ⟨bool_eqK (by simp [h2]), rfl⟩
        · go_wp2_with fail
          go_meet
          case rel => exact ⟨bool_eqK (by simp [h1, h2]), rfl⟩
    · have h0' : (C == 0) = false := by simp [h0]
      go_wp2_with fail
      go_meet
      case rel => exact ⟨bool_eqK (by simp [h0]), rfl⟩
  case rest =>
  obtain ⟨rfl, hwc⟩ := hcut
  subst hwc
  clear x0 x1 o0 o1 o2 o3 o4 o5 o6 o7
  go_upto_if 62 with fail
  go_cut [7] from 62 to 62 (fun s7 wx => s7 = .int .i64 RE ∧ wx = wc)
  case first =>
    by_cases h0 : C = 0 ∧ (kq < 1 ∨ q < kq)
    · have h0' : decide (C = 0 ∧ (kq < 1 ∨ q < kq)) = true := by simpa using h0
      have hR : RE = 1 := by rw [← HR2.out, if_pos h0.1, if_neg (by omega)]
      rw [h0']
      clear h0 h0'
      go_wp2_with fail
      go_meet
      case rel => exact ⟨int_eqK hR.symm, rfl⟩
    · have h0' : decide (C = 0 ∧ (kq < 1 ∨ q < kq)) = false := by simpa using h0
      have hR : RE = C := by
        rw [← HR2.out]
        by_cases hc : C = 0
        · rw [if_pos hc, if_pos (by omega), hc]
        · rw [if_neg hc]
      rw [h0']
      clear h0 h0'
      go_wp2_with fail
      go_meet
      case rel => exact ⟨int_eqK hR.symm, rfl⟩
  case rest =>
  obtain ⟨rfl, hwc⟩ := hcut
  subst hwc
  -- what rests
  obtain ⟨v1, v2, v3, v4, v5, hvr⟩ : ∃ v1 v2 v3 v4 v5, restV ⟨a, b, c, d, p, q, s, t⟩ kq = ⟨v1, v2, v3, v4, v5⟩ := ⟨_, _, _, _, _, rfl⟩
  have HVR := hidK hvr
  clear hvr
  have hBa : Below wc.heap.size wc (wc.alloc (.cells #[.int .i64 0, .int .i64 0, .int .i64 0, .int .i64 0, .int .i64 0] 26)) := (Below.refl _ _).alloc (Nat.le_refl _) _
  have hR0 : (wc.alloc (.cells #[.int .i64 0, .int .i64 0, .int .i64 0, .int .i64 0, .int .i64 0] 26)).heap[wc.heap.size]? = some (.cells #[.int .i64 0, .int .i64 0, .int .i64 0, .int .i64 0, .int .i64 0] 26 (0, 0)) := heap_alloc_new wc _
  have HW10 := hidK (HW9.out.trans (hBa.mono HW9.out.size))
  have hRM10 := (hBa.block M0 (Array.getElem?_eq_some_iff.1 hRM9).1).trans hRM9
  have HVS := hidK (show V.heap.size ≤ wc.heap.size ∧ M0 < wc.heap.size from ⟨HW9.out.size, (Array.getElem?_eq_some_iff.1 hRM9).1⟩)
  clear hBa hRM9 HW9
  go_upto_if 64 with fail
  generalize wc.alloc (.cells #[.int .i64 0, .int .i64 0, .int .i64 0, .int .i64 0, .int .i64 0] 26) = W10 at *
  generalize wc.heap.size = R0 at *
  go_cut [7] from 64 to 67 (fun s7 wx => s7 = .int .i64 RE ∧ wx.heap[R0]? = some (.cells #[.int .i64 v1, .int .i64 v2, .int .i64 v3, .int .i64 v4, .int .i64 v5] 26 (0, 0)) ∧ wx.heap[M0]? = some (.cells #[.slice y1 l1 k1, .slice y2 l2 k2, .slice tq tn tc, .int .i64 lf, .int .i64 GN, .slice none 0 0, .bool false] 65 (0, 0)) ∧ Aside (Below V.heap.size V wx))
  case first =>
    by_cases h0 : RE = 0
    · subst h0
      obtain ⟨hck, hk1, hk2⟩ := rest_zero HRE.out
      have hn := shw_of hck
      simp only [] at hn hk2
      have hkr : rB (keptR ⟨a, b, c, d, p, q, s, t⟩ kq) = .agg #[.int .i64 v1, .int .i64 v2, .int .i64 v3, .int .i64 v4, .int .i64 v5] := by
        have h := HVR.out
        unfold restV at h
        rw [if_pos HRE.out] at h
        rw [h]
        rfl
      have HKP := hidK (rkept_any a b c d p q s t kq W10 hn.1 (by omega) hk1 (by omega))
      rw [hkr] at HKP
      clear hck hk1 hk2 hn hkr
      obtain ⟨-, x0, x1, o0, o1, o2, o3, o4, o5, o6, o7⟩ := HSO.out W10 HW10.out
      go_wp2_with fail
      refine HKP.out.mono ?_
      rintro e w11 ⟨rfl, b11⟩
      have hR11 := (b11.block R0 (Array.getElem?_eq_some_iff.1 hR0).1).trans hR0
      have hRM11 := (b11.block M0 (Array.getElem?_eq_some_iff.1 hRM10).1).trans hRM10
      have hW11 := HW10.out.trans (b11.mono HW10.out.size)
      obtain ⟨e0, e1, e2, e3, e4, ef⟩ := rowFive hR11
      have f0 := ef 0
      have f1 := ef 1
      have f2 := ef 2
      have f3 := ef 3
      have f4 := ef 4
      have hg := grFive w11 R0 (.int .i64 v1) (.int .i64 v2) (.int .i64 v3) (.int .i64 v4) (.int .i64 v5)
      have HHX := hidK (setFive hR11 (.int .i64 v1) (.int .i64 v2) (.int .i64 v3) (.int .i64 v4) (.int .i64 v5))
      have HMX := hidK ((hg.block M0 (Array.getElem?_eq_some_iff.1 hRM11).1 (fun e => by cases e; have := HVS.out.2; omega)).trans hRM11)
      have HBX := hidK (hW11.grown hg hW11.size (fun k hk => by cases hk; exact HVS.out.1))
      clear ef hg hR11 hRM11 hW11 b11 HKP x0 x1 o0 o1 o2 o3 o4 o5 o6 o7
      go_wp2_with fail
      go_meet
      case rel => exact ⟨rfl, HHX.out, HMX.out, HBX.out⟩
    · have h0' : (RE == 0) = false := by simp [h0]
      have HHX : Hid (W10.heap[R0]? = some (.cells #[.int .i64 v1, .int .i64 v2, .int .i64 v3, .int .i64 v4, .int .i64 v5] 26 (0, 0))) := by
        have h := HVR.out
        unfold restV at h
        rw [if_neg (by rw [HRE.out]; exact h0)] at h
        unfold kin.zeroR at h
        injection h with a1 a2 a3 a4 a5
        subst a1 a2 a3 a4 a5
        exact hR0
      have HMX := hidK hRM10
      go_wp2_with fail
      go_meet
      case rel => exact ⟨rfl, HHX.out, HMX.out, HW10.out⟩
  case rest =>
  obtain ⟨rfl, hR12, hRM12, HA⟩ := hcut
  have HW12 := hidK HA.out
  clear HA hR0 hRM10 HW10
  obtain ⟨-, x0, x1, o0, o1, o2, o3, o4, o5, o6, o7⟩ := HSO.out wc HW12.out
  have HKR := hidK (krest_any a b c d p q s t kq wc)
  rw [HVR.out, HRE.out, show rB ⟨v1, v2, v3, v4, v5⟩ = .agg #[.int .i64 v1, .int .i64 v2, .int .i64 v3, .int .i64 v4, .int .i64 v5] from rfl] at HKR
  generalize hEW : errV RE = EW at *
  have HEW := hidK hEW
  clear hEW
  go_wp2_with fail
  refine HKR.out.mono ?_
  rintro e w13 ⟨rfl, b13⟩
  have hBa : Below w13.heap.size w13 (w13.alloc (.cells #[.int .i64 v1, .int .i64 v2, .int .i64 v3, .int .i64 v4, .int .i64 v5] 26)) := (Below.refl _ _).alloc (Nat.le_refl _) _
  have hb13 := b13.trans (hBa.mono b13.size)
  have hRK : (w13.alloc (.cells #[.int .i64 v1, .int .i64 v2, .int .i64 v3, .int .i64 v4, .int .i64 v5] 26)).heap[w13.heap.size]? = some (.cells #[.int .i64 v1, .int .i64 v2, .int .i64 v3, .int .i64 v4, .int .i64 v5] 26 (0, 0)) := heap_alloc_new w13 _
  have HW14 := hidK (HW12.out.trans (hb13.mono HW12.out.size))
  have hRM14 := (hb13.block M0 (Array.getElem?_eq_some_iff.1 hRM12).1).trans hRM12
  have hR14 := (hb13.block R0 (Array.getElem?_eq_some_iff.1 hR12).1).trans hR12
  clear x0 x1 o0 o1 o2 o3 o4 o5 o6 o7 HKR b13 hb13 hBa hRM12 hR12 HW12
  go_upto_region 16 with fail
  generalize w13.alloc (.cells #[.int .i64 v1, .int .i64 v2, .int .i64 v3, .int .i64 v4, .int .i64 v5] 26) = W14 at *
  generalize w13.heap.size = K0 at *
  obtain ⟨⟨-, hI14, -, -⟩, -⟩ := HSO.out W14 HW14.out
  have HE14 := hidK (err_oneK RE B W14 hI14)
  rw [HEW.out] at HE14
  clear hI14
  go_wp2_with fail
  refine HE14.out.mono ?_
  rintro e w15 ⟨rfl, b15⟩
  have HW15 := hidK (HW14.out.trans (b15.mono HW14.out.size))
  have hRM15 := (b15.block M0 (Array.getElem?_eq_some_iff.1 hRM14).1).trans hRM14
  have hR15 := (b15.block R0 (Array.getElem?_eq_some_iff.1 hR14).1).trans hR14
  have hK15 := (b15.block K0 (Array.getElem?_eq_some_iff.1 hRK).1).trans hRK
  obtain ⟨z0, z1, z2, z3, z4, z5, z6, -⟩ := rowSeven hRM15
  obtain ⟨c0', c1', c2', c3', c4', -⟩ := rowFive hR15
  obtain ⟨d0', d1', d2', d3', d4', -⟩ := rowFive hK15
  have HI15 := hidK (HSO.out w15 HW15.out).1.2.1
  have hgg : (GN == GN) = true := by simp
  clear HSO hRM15 hR15 hK15 b15 hRM14 hR14 hRK HE14
  go_wp2_with fail
  go_ret
  exact ⟨rfl, HI15.out⟩
theorem walk {w : World} (q1 q2 : Option Addr) (n1 n2 c1 c2 : Nat) (bs ss : List L) (h1 : LS w (.slice q1 n1 c1) bs) (h2 : LS w (.slice q2 n2 c2) ss) (a b c d p q s t kq : Int) (B : World) (hI : told.Inv B w) :
    Calls Tryz.prog 5 #[.agg #[.slice q1 n1 c1, .slice q2 n2 c2], .agg #[.int .i64 a, .int .i64 b, .int .i64 c, .int .i64 d, .int .i64 p, .int .i64 q, .int .i64 s, .int .i64 t], .int .i64 kq] w fun e w' => e = .returned (.bool true) ∧ told.Inv B w' :=
  walk0 q1 q2 n1 n2 c1 c2 bs ss a b c d p q s t kq B w hI h1 h2
end Go.Proofs.YtpbbgbjgndikdaaGreatDoor.kindsTell
