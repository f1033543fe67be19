/- Contracts over this seat's translation: the document's Comes. Plain facts on who comes and who rests: the document goes fill by fill, the program level by level; both take the same. No walk. Trades of the call's own, place by place. -/
import Derived.Test.YtalhdjlopkdnbaaGreatDoorSidMem
import Derived.Test.YtalhdjlopkdnbaaGreatDoorMeePure
import Derived.Test.YtalhdjlopkdnbaaGreatDoorMeeTake
import Derived.Test.YtalhdjlopkdnbaaGreatDoorSidPut
import Derived.Test.YtalhdjlopkdnbaaGreatDoorMeeLvl
namespace Go.Proofs.YtalhdjlopkdnbaaGreatDoor.mee
open Go.RowKit Go.Proofs.YtalhdjlopkdnbaaGreatDoor.spn Go.Proofs.YtalhdjlopkdnbaaGreatDoor.que Go.Proofs.YtalhdjlopkdnbaaGreatDoor.sid Go.Proofs.YtalhdjlopkdnbaaGreatDoor.bok
open Go.Proofs.YtalhdjlopkdnbaaGreatDoor.ord (O oV mB mE chk rord_any)

theorem rfind_in (bs ss : List L) (id : Int) : (rfindP bs ss id).1 = 0 ↔ inBook bs ss id = false := by
  have h1 := atGo_mem id bs 0 (Int.le_refl _)
  have h2 := atGo_mem id ss 0 (Int.le_refl _)
  have e1 : (allR bs).map (·.id) = ids bs := allR_ids bs
  have e2 : (allR ss).map (·.id) = ids ss := allR_ids ss
  rw [e1] at h1
  rw [e2] at h2
  unfold inBook rfindP
  by_cases g1 : 0 ≤ (atGo id 0 bs).1
  · rw [if_pos g1, decide_eq_true (.inl (h1.1 g1))]; simp
  · rw [if_neg g1]
    by_cases g2 : 0 ≤ (atGo id 0 ss).1
    · rw [if_pos g2, decide_eq_true (.inr (h2.1 g2))]; simp
    · rw [if_neg g2, decide_eq_false (by rintro (h | h); exact g1 (h1.2 h); exact g2 (h2.2 h))]; simp

set_option maxRecDepth 100000 in
set_option maxHeartbeats 2000000 in
theorem rcomes_any (q1 q2 : Option Addr) (n1 n2 c1 c2 : Nat) (bs ss : List L) (a b c d p q s t : Int) (w : World) (h1 : LS w (.slice q1 n1 c1) bs) (h2 : LS w (.slice q2 n2 c2) ss) :
    Calls Tryz.prog 25 #[.agg #[.slice q1 n1 c1, .slice q2 n2 c2], .agg #[.int .i64 a, .int .i64 b, .int .i64 c, .int .i64 d, .int .i64 p, .int .i64 q, .int .i64 s, .int .i64 t]] w fun e w' => e = .returned (.int .i64 (comeE bs ss ⟨a, b, c, d, p, q, s, t⟩)) ∧ Below w.heap.size w w' := by
  have HBK : Hid (∀ W, Below w.heap.size w W → Calls Tryz.prog 7 #[.agg #[.slice q1 n1 c1, .slice q2 n2 c2]] W fun e w' => e = .returned (.int .i64 (bookE bs ss)) ∧ Below W.heap.size W w') := fun W hW => rbook_any q1 q2 n1 n2 c1 c2 bs ss W (h1.below hW) (h2.below hW)
  have HOR : Hid (∀ W, Calls Tryz.prog 35 #[.agg #[.int .i64 a, .int .i64 b, .int .i64 c, .int .i64 d, .int .i64 p, .int .i64 q, .int .i64 s, .int .i64 t]] W fun e w' => e = .returned (.int .i64 (chk ⟨a, b, c, d, p, q, s, t⟩)) ∧ Below W.heap.size W w') := fun W => rord_any ⟨a, b, c, d, p, q, s, t⟩ W
  have HFI : Hid (∀ W, Below w.heap.size w W → Calls Tryz.prog 19 #[.agg #[.slice q1 n1 c1, .slice q2 n2 c2], .int .i64 a] W fun e w' => e = .returned (.tuple #[.int .i64 (rfindP bs ss a).1, .int .i64 (rfindP bs ss a).2.1, .int .i64 (rfindP bs ss a).2.2]) ∧ Below W.heap.size W w') := fun W hW => rfind_any q1 q2 n1 n2 c1 c2 bs ss a W (h1.below hW) (h2.below hW)
  have hRI := rfind_in bs ss a
  have hCE : comeE bs ss ⟨a, b, c, d, p, q, s, t⟩ = if bookE bs ss = 0 then (if chk ⟨a, b, c, d, p, q, s, t⟩ = 0 then (if t = 0 then (if inBook bs ss a = true then 7 else 0) else 6) else chk ⟨a, b, c, d, p, q, s, t⟩) else bookE bs ss := rfl
  obtain ⟨V, hV⟩ : ∃ V, V = (w.alloc (.cells #[.slice q1 n1 c1, .slice q2 n2 c2] 24)).alloc (.cells #[.int .i64 a, .int .i64 b, .int .i64 c, .int .i64 d, .int .i64 p, .int .i64 q, .int .i64 s, .int .i64 t] 60) := ⟨_, rfl⟩
  have HB : Hid (Below w.heap.size w V) := by rw [hV]; exact ((Below.refl _ _).alloc (Nat.le_refl _) _).alloc (by simp) _
  have hR : V.heap[w.heap.size + 1]? = some (.cells #[.int .i64 a, .int .i64 b, .int .i64 c, .int .i64 d, .int .i64 p, .int .i64 q, .int .i64 s, .int .i64 t] 60 (0, 0)) := by
    rw [hV]
    have := heap_alloc_new (w.alloc (.cells #[.slice q1 n1 c1, .slice q2 n2 c2] 24)) (.cells #[.int .i64 a, .int .i64 b, .int .i64 c, .int .i64 d, .int .i64 p, .int .i64 q, .int .i64 s, .int .i64 t] 60)
    simpa using this
  have hR0 : V.heap[w.heap.size]? = some (.cells #[.slice q1 n1 c1, .slice q2 n2 c2] 24 (0, 0)) := by
    have hb : Below (w.heap.size + 1) (w.alloc (.cells #[.slice q1 n1 c1, .slice q2 n2 c2] 24)) V := by rw [hV]; exact (Below.refl _ _).alloc (by simp) _
    rw [hb.block w.heap.size (Nat.lt_succ_self _)]
    exact heap_alloc_new w _
  have u0 : V.cell? ⟨w.heap.size, 0, none⟩ = some (.slice q1 n1 c1) := by simp [World.cell?, hR0]
  have u1 : V.cell? ⟨w.heap.size, 1, none⟩ = some (.slice q2 n2 c2) := by simp [World.cell?, hR0]
  have v0 : V.cell? ⟨w.heap.size + 1, 0, none⟩ = some (.int .i64 a) := by simp [World.cell?, hR]
  have v1 : V.cell? ⟨w.heap.size + 1, 1, none⟩ = some (.int .i64 b) := by simp [World.cell?, hR]
  have v2 : V.cell? ⟨w.heap.size + 1, 2, none⟩ = some (.int .i64 c) := by simp [World.cell?, hR]
  have v3 : V.cell? ⟨w.heap.size + 1, 3, none⟩ = some (.int .i64 d) := by simp [World.cell?, hR]
  have v4 : V.cell? ⟨w.heap.size + 1, 4, none⟩ = some (.int .i64 p) := by simp [World.cell?, hR]
  have v5 : V.cell? ⟨w.heap.size + 1, 5, none⟩ = some (.int .i64 q) := by simp [World.cell?, hR]
  have v6 : V.cell? ⟨w.heap.size + 1, 6, none⟩ = some (.int .i64 s) := by simp [World.cell?, hR]
  have v7 : V.cell? ⟨w.heap.size + 1, 7, none⟩ = some (.int .i64 t) := by simp [World.cell?, hR]
  have SO : Hid (∀ W, Below V.heap.size V W → W.cell? ⟨w.heap.size, 0, none⟩ = some (.slice q1 n1 c1) ∧ W.cell? ⟨w.heap.size, 1, none⟩ = some (.slice q2 n2 c2) ∧ W.cell? ⟨w.heap.size + 1, 0, none⟩ = some (.int .i64 a) ∧ W.cell? ⟨w.heap.size + 1, 1, none⟩ = some (.int .i64 b) ∧ W.cell? ⟨w.heap.size + 1, 2, none⟩ = some (.int .i64 c) ∧ W.cell? ⟨w.heap.size + 1, 3, none⟩ = some (.int .i64 d) ∧ W.cell? ⟨w.heap.size + 1, 4, none⟩ = some (.int .i64 p) ∧ W.cell? ⟨w.heap.size + 1, 5, none⟩ = some (.int .i64 q) ∧ W.cell? ⟨w.heap.size + 1, 6, none⟩ = some (.int .i64 s) ∧ W.cell? ⟨w.heap.size + 1, 7, none⟩ = some (.int .i64 t)) := fun W hW => ⟨keeps hW u0, keeps hW u1, keeps hW v0, keeps hW v1, keeps hW v2, keeps hW v3, keeps hW v4, keeps hW v5, keeps hW v6, keeps hW v7⟩
  clear h1 h2 hR hR0 v0 v1 v2 v3 v4 v5 v6 v7
  generalize comeE bs ss ⟨a, b, c, d, p, q, s, t⟩ = E at *
  generalize bookE bs ss = e1 at *
  generalize chk ⟨a, b, c, d, p, q, s, t⟩ = e2 at *
  generalize inBook bs ss a = ib at *
  generalize rfindP bs ss a = P at *
  obtain ⟨p1, p2, p3⟩ := P
  simp only [] at hRI HFI
  go_enter Tryz.func25, Tryz.ntmps25
  go_wp2_with fail
  rw [← hV]
  clear hV
  refine (HBK.out V HB.out).mono ?_
  rintro x w1 ⟨rfl, bw1⟩
  have HB1 : Hid (Below V.heap.size V w1) := bw1
  clear bw1 HBK u0 u1
  obtain ⟨x0, x1, y0, y1, y2, y3, y4, y5, y6, y7⟩ := SO.out w1 HB1.out
  have hlt : w.heap.size + 1 < w1.heap.size := World.block_lt_of_cell? w1 ⟨w.heap.size + 1, 5, none⟩ y5
  by_cases z1 : e1 = 0
  · subst z1
    rw [if_pos rfl] at hCE
    have HCE := hid_of hCE
    have HRI := hid_of hRI
    clear hCE hRI
    go_wp2_with fail
    refine (HOR.out w1).mono ?_
    rintro x w2 ⟨rfl, bw2⟩
    have HB2 : Hid (Below V.heap.size V w2) := HB1.out.trans (bw2.mono HB1.out.size)
    clear bw2 HOR x0 x1 y0 y1 y2 y3 y4 y5 y6 y7 hlt
    obtain ⟨x0, x1, y0, y1, y2, y3, y4, y5, y6, y7⟩ := SO.out w2 HB2.out
    have hlt : w.heap.size + 1 < w2.heap.size := World.block_lt_of_cell? w2 ⟨w.heap.size + 1, 5, none⟩ y5
    by_cases z2 : e2 = 0
    · subst z2
      by_cases z3 : t = 0
      · subst z3
        go_wp2_with fail
        refine (HFI.out w2 (HB.out.trans (HB2.out.mono HB.out.size))).mono ?_
        rintro x w3 ⟨rfl, bw3⟩
        have HB3 : Hid (Below w.heap.size w w3) := (HB.out.trans (HB2.out.mono HB.out.size)).trans (bw3.mono (HB.out.trans (HB2.out.mono HB.out.size)).size)
        clear bw3 HFI x0 x1 y0 y1 y2 y3 y4 y5 y6 y7 hlt SO
        by_cases z4 : p1 = 0
        · have HE : Hid (E = 0) := by show E = 0; have h := HCE.out; rw [HRI.out.1 z4] at h; simpa using h
          obtain rfl := HE.out
          subst z4
          go_wp2_with fail
          go_ret
          exact ⟨rfl, HB3.out⟩
        · have HE : Hid (E = 7) := by
            have h := HCE.out
            cases ib with
            | false => exact absurd (HRI.out.2 rfl) z4
            | true => show E = 7; simpa using h
          obtain rfl := HE.out
          have z5 : (p1 == 0) = false := by simpa using z4
          go_wp2_with fail
          go_ret
          exact ⟨rfl, HB3.out⟩
      · have HE : Hid (E = 6) := by have h := HCE.out; rw [if_pos rfl, if_neg z3] at h; exact h
        obtain rfl := HE.out
        have z5 : (t == 0) = false := by simpa using z3
        go_wp2_with fail
        go_ret
        exact ⟨rfl, HB.out.trans (HB2.out.mono HB.out.size)⟩
    · have HE : Hid (E = e2) := by have h := HCE.out; rw [if_neg z2] at h; exact h
      obtain rfl := HE.out
      have z5 : (E == 0) = false := by simpa using z2
      go_wp2_with fail
      go_ret
      exact ⟨rfl, HB.out.trans (HB2.out.mono HB.out.size)⟩
  · rw [if_neg z1] at hCE
    subst hCE
    have z5 : (E == 0) = false := by simpa using z1
    clear HOR HFI hRI
    go_wp2_with fail
    go_ret
    exact ⟨rfl, HB.out.trans (HB1.out.mono HB.out.size)⟩
end Go.Proofs.YtalhdjlopkdnbaaGreatDoor.mee
namespace Go.Proofs.YtalhdjlopkdnbaaGreatDoor.mee
open Go.RowKit Go.Proofs.YtalhdjlopkdnbaaGreatDoor.spn Go.Proofs.YtalhdjlopkdnbaaGreatDoor.que Go.Proofs.YtalhdjlopkdnbaaGreatDoor.sid
open Go.Proofs.YtalhdjlopkdnbaaGreatDoor.ord (O mB chk)

/-- The levels behind one fill of the first rest. -/
def stepL (p : Int) (z : List R) (t : List L) : List L := if z = [] then t else ⟨p, z⟩ :: t
theorem rest_pos {r : R} {rs : List R} (h : qchk (r :: rs) = 0) : 1 ≤ r.qty ∧ r.qty ≤ 10000 := by
  obtain ⟨-, hg⟩ := (qchk_zero _).1 h
  exact (rchk_zero (hg.1 r (by simp))).1
theorem step_queue {q : Int} {r : R} {rs : List R} (h : 0 < q) (hg : qchk (r :: rs) = 0) : qchk (tk1 (min q r.qty) r rs) = 0 ∧ tot (tk1 (min q r.qty) r rs) = tot (r :: rs) - min q r.qty := by
  have hp := rest_pos hg
  obtain ⟨h60, hgg⟩ := (qchk_zero _).1 hg
  obtain ⟨a, b, c⟩ := tk1_good hgg (show 1 ≤ min q r.qty by omega) (by omega)
  exact ⟨(qchk_zero _).2 ⟨by omega, a⟩, b⟩
theorem step_good {q p : Int} {r : R} {rs : List R} {t : List L} (h : 0 < q) (hl : ∀ l ∈ (⟨p, r :: rs⟩ :: t : List L), lchk l = 0) : ∀ l ∈ stepL p (tk1 (min q r.qty) r rs) t, lchk l = 0 := by
  have h1 : lchk ⟨p, r :: rs⟩ = 0 := hl _ (by simp)
  obtain ⟨hp, -, hq⟩ := lchk_zero h1
  have hz := (step_queue h hq).1
  intro l hm
  unfold stepL at hm
  by_cases e : tk1 (min q r.qty) r rs = []
  · rw [if_pos e] at hm; exact hl l (by simp [hm])
  · rw [if_neg e] at hm
    rcases List.mem_cons.1 hm with rfl | hm
    · exact lchk_of (by show (decide _ && decide _) = true; simp; exact hp) e hz
    · exact hl l (by simp [hm])
theorem tkl_fill {o : O} {p q : Int} {r : R} {rs : List R} {t : List L} (h : 0 < q) (hm : mB o p = true) (hg : qchk (r :: rs) = 0) :
    tkl o (⟨p, r :: rs⟩ :: t) q = ((tkl o (stepL p (tk1 (min q r.qty) r rs) t) (q - min q r.qty)).1, trd o p ⟨r.id, r.who, min q r.qty⟩ :: (tkl o (stepL p (tk1 (min q r.qty) r rs) t) (q - min q r.qty)).2.1, (tkl o (stepL p (tk1 (min q r.qty) r rs) t) (q - min q r.qty)).2.2) := by
  have hp := rest_pos hg
  have hgg := ((qchk_zero _).1 hg).2
  have hc := take_cons q r rs h hgg
  generalize hk : min q r.qty = k at *
  have hkp : 1 ≤ k ∧ k ≤ q := by omega
  generalize tk1 k r rs = z at *
  unfold stepL
  by_cases hz : z = []
  · subst hz
    rw [take_nil] at hc
    rw [if_pos rfl, tkl_gone h hm (by rw [hc])]
    simp only [hc]
    have e : q - sum [⟨r.id, r.who, k⟩] = q - k := by simp [sum]
    rw [e]
    rfl
  · rw [if_neg hz]
    by_cases h0 : q - k ≤ 0
    · rw [take_done _ _ h0] at hc
      rw [tkl_last h hm (by rw [hc]; exact hz), tkl_zero h0]
      simp only [hc]
      have e : q - sum [⟨r.id, r.who, k⟩] = q - k := by simp [sum]
      rw [e]
      rfl
    · have hs : ∀ S : List F, q - sum (⟨r.id, r.who, k⟩ :: S) = q - k - sum S := fun S => by simp only [sum]; omega
      by_cases he : (take (q - k) z).2 = []
      · rw [tkl_gone (l := ⟨p, z⟩) (by omega) hm he, tkl_gone h hm (by rw [hc]; exact he)]
        simp only [hc, hs]
        rfl
      · rw [tkl_last (l := ⟨p, z⟩) (by omega) hm he, tkl_last h hm (by rw [hc]; exact he)]
        simp only [hc, hs]
        rfl
end Go.Proofs.YtalhdjlopkdnbaaGreatDoor.mee
namespace Go.Proofs.YtalhdjlopkdnbaaGreatDoor.mee
open Go.RowKit Go.Proofs.YtalhdjlopkdnbaaGreatDoor.spn Go.Proofs.YtalhdjlopkdnbaaGreatDoor.que Go.Proofs.YtalhdjlopkdnbaaGreatDoor.sid

theorem flatT_get (ts : List T) : ∀ j, j < ts.length → ∀ i, i < 6 → (flatT ts)[j * 6 + i]? = (tV ts[j]!)[i]? := by
  induction ts with
  | nil => intro j hj; simp at hj
  | cons r t ih =>
    intro j hj i hi
    have e : flatT (r :: t) = tV r ++ flatT t := rfl
    rw [e]
    cases j with
    | zero => rw [Nat.zero_mul, Nat.zero_add, List.getElem?_append_left (by show i < 6; exact hi)]; rfl
    | succ j =>
      rw [List.getElem?_append_right (by show 6 ≤ _; omega)]
      have : (j + 1) * 6 + i - (tV r).length = j * 6 + i := by show (j + 1) * 6 + i - 6 = _; omega
      rw [this, ih j (by simpa using hj) i hi]
      rfl
/-- Trades of the call's own, place by place. -/
theorem OwnT.at {w : World} {base : Nat} {q : Option Addr} {n c : Nat} {ts : List T} (h : OwnT w base (.slice q n c) ts) {k : Nat} (hk : k < ts.length) : ∃ g off, q = some ⟨g, off, none⟩ ∧ g < w.heap.size ∧ w.cell? ⟨g, off + k * 6, none⟩ = some (.int .i64 ts[k]!.maker) ∧ w.cell? ⟨g, off + k * 6 + 1, none⟩ = some (.int .i64 ts[k]!.taker) ∧ w.cell? ⟨g, off + k * 6 + 2, none⟩ = some (.int .i64 ts[k]!.frm) ∧ w.cell? ⟨g, off + k * 6 + 3, none⟩ = some (.int .i64 ts[k]!.into) ∧ w.cell? ⟨g, off + k * 6 + 4, none⟩ = some (.int .i64 ts[k]!.price) ∧ w.cell? ⟨g, off + k * 6 + 5, none⟩ = some (.int .i64 ts[k]!.qty) := by
  have hn : n = ts.length := by obtain ⟨q', c', e⟩ := OwnM.form h; cases e; rfl
  subst hn
  cases q with
  | none =>
    rcases h.2 with ⟨e, hn⟩ | ⟨g, off, cap, cur, e, _⟩
    · rw [hn] at hk; exact absurd hk (Nat.not_lt_zero _)
    · cases e
  | some a =>
    rcases h.2 with ⟨e, hn⟩ | ⟨g, off, cap, cur, e, _⟩
    · cases e
    · cases e
      obtain ⟨hc, -, -, hlt⟩ := OwnM.cells h
      have hh : ∀ i u, i < 6 → (tV ts[k]!)[i]? = some u → w.cell? ⟨g, off + (k * 6 + i), none⟩ = some u := fun i u hi hu => hc (k * 6 + i) u (by rw [flatT_get ts k hk i hi]; exact hu)
      exact ⟨g, off, rfl, hlt, hh 0 _ (by omega) rfl, hh 1 _ (by omega) rfl, hh 2 _ (by omega) rfl, hh 3 _ (by omega) rfl, hh 4 _ (by omega) rfl, hh 5 _ (by omega) rfl⟩

end Go.Proofs.YtalhdjlopkdnbaaGreatDoor.mee
