/- Contracts over this seat's translation: package tape's byId, Book. -/
import Derived.Test.YtgpbpaimfhlnhaaDoorTapMap
import Derived.Test.YtgpbpaimfhlnhaaDoorTapSrt
import Derived.Maps.RangeWalk
namespace Go.Proofs.YtgpbpaimfhlnhaaDoor.tap
open Go.RowKit Go.Proofs.YtgpbpaimfhlnhaaDoor.mee Go.Proofs.YtgpbpaimfhlnhaaDoor.flr Go.Maps
open Go.Proofs.YtgpbpaimfhlnhaaDoor.spn (keeps rangeE errV errV_zero errV_of)
open Go.Proofs.YtgpbpaimfhlnhaaDoor.wak (OwnM wpList_append_mid own_of own_range)

/-- What rests by what was heard, by id. -/
def rowsOf (f : Fm) : List X3 := (List.range 9999).filterMap fun (i : Nat) => (f ((i : Int) + 1)).map fun a => ((i : Int) + 1, a.1, a.2)
theorem mem_rows {f : Fm} (hf : FOk f) (id q p : Int) : (id, q, p) ∈ rowsOf f ↔ f id = some (q, p) := by
  unfold rowsOf
  rw [List.mem_filterMap]
  constructor
  · rintro ⟨i, -, hi⟩
    rw [Option.map_eq_some_iff] at hi
    obtain ⟨a, ha, he⟩ := hi
    simp only [Prod.mk.injEq] at he
    obtain ⟨h1, h2, h3⟩ := he
    rw [← h1, ha, ← h2, ← h3]
  · intro h
    have := hf id _ h
    refine ⟨(id - 1).toNat, by rw [List.mem_range]; omega, ?_⟩
    have e : (((id - 1).toNat : Nat) : Int) + 1 = id := by omega
    rw [e, h]
    rfl
theorem rows_rise (f : Fm) : (rowsOf f).Pairwise fun a b => a.1 < b.1 := by
  unfold rowsOf
  rw [List.pairwise_filterMap]
  refine List.Pairwise.imp ?_ (List.pairwise_lt_range)
  intro a b hab x hx y hy
  rw [Option.map_eq_some_iff] at hx hy
  obtain ⟨_, _, rfl⟩ := hx
  obtain ⟨_, _, rfl⟩ := hy
  simp only
  omega
theorem rise_eq : ∀ {l m : List X3}, l.Pairwise (fun a b => a.1 < b.1) → m.Pairwise (fun a b => a.1 < b.1) → (∀ x, x ∈ l ↔ x ∈ m) → l = m
  | [], [], _, _, _ => rfl
  | [], b :: m, _, _, h => by have := (h b).2 List.mem_cons_self; simp at this
  | a :: l, [], _, _, h => by have := (h a).1 List.mem_cons_self; simp at this
  | a :: l, b :: m, hl, hm, h => by
    rw [List.pairwise_cons] at hl hm
    have hab : a = b := by
      rcases List.mem_cons.1 ((h a).1 List.mem_cons_self) with e | e
      · exact e
      · rcases List.mem_cons.1 ((h b).2 List.mem_cons_self) with e2 | e2
        · exact e2.symm
        · have h1 := hm.1 a e
          have h2 := hl.1 b e2
          omega
    subst hab
    congr 1
    refine rise_eq hl.2 hm.2 fun x => ?_
    constructor
    · intro hx
      rcases List.mem_cons.1 ((h x).1 (List.mem_cons_of_mem _ hx)) with e | e
      · have := hl.1 x hx; subst e; omega
      · exact e
    · intro hx
      rcases List.mem_cons.1 ((h x).2 (List.mem_cons_of_mem _ hx)) with e | e
      · have := hm.1 x hx; subst e; omega
      · exact e
/-- What was collected so far. -/
structure Col (f : Fm) (left : Lit → Bool) (ts : List X3) : Prop where
  mem : ∀ id q p, (id, q, p) ∈ ts ↔ f id = some (q, p) ∧ left (.int .i64 id) = false
  one : (ts.map (·.1)).Nodup
theorem Col.start {f : Fm} {D : DataW Unit} (hD : MapIs D f) : Col f (Maps.has D) [] := by
  refine ⟨fun id q p => ?_, by simp⟩
  constructor
  · intro h; simp at h
  · rintro ⟨h1, h2⟩
    rw [hD.has_, h1] at h2
    cases h2
theorem Col.step {f : Fm} {left : Lit → Bool} {ts : List X3} (h : Col f left ts) {x : Int} {a : Am} (hx : left (.int .i64 x) = true) (hf : f x = some a) :
    Col f (fun z => left z && !z.sameKey (.int .i64 x)) (ts ++ [(x, a.1, a.2)]) := by
  have hk : ∀ id : Int, (Lit.int .i64 id).sameKey (.int .i64 x) = decide (id = x) := fun id => by
    by_cases e : id = x
    · subst e
      rw [decide_eq_true rfl]
      simp [Lit.sameKey]
    · rw [sameKey_ne (lit_ne e), decide_eq_false e]
  refine ⟨fun id q p => ?_, ?_⟩
  · rw [List.mem_append, h.mem, hk]
    by_cases e : id = x
    · subst e
      rw [hx, hf]
      simp
      constructor
      · rintro ⟨rfl, rfl⟩; rfl
      · rintro rfl; exact ⟨rfl, rfl⟩
    · simp [e]
  · rw [List.map_append, List.nodup_append]
    refine ⟨h.one, by simp, ?_⟩
    intro a1 ha b1 hb e
    simp at hb
    subst hb e
    obtain ⟨⟨i, q, p⟩, hm, rfl⟩ := List.mem_map.1 ha
    have := ((h.mem i q p).1 hm).2
    simp only at hx
    rw [hx] at this
    cases this
theorem Col.sorted {f : Fm} (hf : FOk f) {left : Lit → Bool} {ts ys : List X3} (h : Col f left ts) (hl : ∀ kl, left kl = false) (hp : ys.Perm ts) (hs : ys.Pairwise fun a b => a.1 ≤ b.1) : ys = rowsOf f := by
  have hn : (ys.map (·.1)).Nodup := ((hp.map (·.1)).nodup_iff).2 h.one
  refine rise_eq ?_ (rows_rise f) fun ⟨i, q, p⟩ => ?_
  · have hn2 := List.pairwise_map.1 hn
    exact (hs.and hn2).imp fun {a b} ⟨h1, h2⟩ => by omega
  · rw [hp.mem_iff, h.mem, mem_rows hf]
    constructor
    · exact fun x => x.1
    · exact fun x => ⟨x, hl _⟩
def zeroX : Value := .agg #[.int .i64 0, .int .i64 0, .int .i64 0]
theorem infoX : (Tryd.prog.info? 43).map (fun i => (i.zero, i.size, i.bytes)) = some (some zeroX, 3, 24) := by kernel_rfl
theorem infoX' : ∃ i, Tryd.prog.info? 43 = some i ∧ i.zero = some zeroX ∧ i.size = 3 ∧ i.bytes = 24 := by
  have h := infoX
  cases hq : Tryd.prog.info? 43 with
  | none => rw [hq] at h; simp at h
  | some i =>
    rw [hq] at h
    simp only [Option.map_some, Option.some.injEq, Prod.mk.injEq] at h
    exact ⟨i, rfl, h.1, h.2.1, h.2.2⟩

set_option maxRecDepth 100000 in
set_option maxHeartbeats 4000000 in
theorem byId_any (b n : Nat) (f : Fm) (w : World) (h : HM w b n f) (hf : FOk f) (hn : n ≤ 400) :
    Calls Tryd.prog 27 #[.map (some b)] w fun e w' => ∃ v, e = .returned v ∧ Own3 w' w.heap.size v (rowsOf f) ∧ Below w.heap.size w w' := by
  obtain ⟨i0, hi0, hz0, hz1, hz2⟩ := infoX'
  have HI := hidT hi0
  obtain ⟨D, hown, hD⟩ := h
  have HD := hidT hD
  have hbw : b < w.heap.size := hown.lt
  have HBW := hidT hbw
  have hsz := hown.size_le
  have HSZ : Hid (Maps.size D ≤ 400) := Nat.le_trans hsz hn
  clear hi0 hsz hbw
  go_enter Tryd.func27, Tryd.ntmps27
  go_wp2_with (first
    | (at_range; refine wpList_range_own _ rfl _ 66 rfl 3 82 lawI Tryd.underlying66 _ b n _ rfl hown ?_; intro w0 hrg0 hg0 hs0)
    | go_in)
  go_frame
  have HB0 : Hid (Below w.heap.size w w0) := (Below.refl _ _).grown hg0 (Nat.le_refl _) (fun k hk => by cases hk)
  have HS0 := hidT hs0
  clear hs0 hg0
  go_loopw [3, 4, 5] (fun s3 _ _ wr => ∃ (left : Lit → Bool) (cnt : Nat) (q : Option Addr) (c m : Nat) (ts : List X3), s3 = .slice q m c ∧ wr.ranges Tryd.prog 3 amR b w.heap.size n D left cnt ∧ Aside (m = ts.length ∧ ts.length + cnt ≤ 400 ∧ Own3 wr (w.heap.size + 1) (.slice q m c) ts ∧ Col f left ts ∧ Below w.heap.size w wr ∧ w.heap.size + 1 ≤ wr.heap.size))
    (fun _ _ _ wr => wr.rangeLeft b w.heap.size)
  case atStart => exact ⟨_, _, none, 0, 0, [], rfl, hrg0, rfl, by simpa using HSZ.out, ⟨rfl, .inl ⟨rfl, rfl⟩⟩, Col.start HD.out, HB0.out, Nat.le_of_eq HS0.out.symm⟩
  case round =>
    obtain ⟨left, cnt, q, c, m, ts, rfl, hrg, HA⟩ := hrel
    clear hrg0 hown HB0 HS0
    go_wp2_with (first
      | (at_next; refine wpList_next_ranges _ rfl _ rfl 3 lawI amR (fun x : Int => Value.int .i64 x) (fun a : Am => Value.agg #[.int .i64 a.1, .int .i64 a.2]) (fun key kl hk => by obtain ⟨x, hx, _⟩ := Maps.keyOf_int_inv Tryd.underlying3 hk; exact ⟨x, hx⟩) (fun v y hv => by obtain ⟨a, c, hv, _⟩ := amR_inv hv; exact ⟨(a, c), hv⟩) b w.heap.size n _ _ _ rfl hrg ?_ ?_)
      | go_in)
    · intro _ hl0
      have HL := hidT hl0
      clear hl0
      go_wp2_with fail
      have hA := HA.out
      have hO : Own3 wr (w.heap.size + 1) (.slice q m c) ts := hA.2.2.1
      refine (sort3_any wr (w.heap.size + 1) (.slice q m c) ts hO (by omega)).mono ?_
      rintro e w' ⟨rfl, ys, hp, hs, ho, hg⟩
      have HF : Hid (Own3 w' w.heap.size (.slice q m c) (rowsOf f) ∧ Below w.heap.size w w') := by
        rw [← hA.2.2.2.1.sorted hf HL.out hp hs]
        exact ⟨OwnM.mono ho (Nat.le_succ _), hA.2.2.2.2.1.grown hg hA.2.2.2.2.1.size (fun k hk => Nat.le_trans (Nat.le_succ _) (OwnM.lt hO k hk).1)⟩
      clear hp hs ho hg hA hO
      go_wp2_with fail
      go_ret
      exact ⟨_, rfl, HF.out.1, HF.out.2⟩
    · intro x a1 a2 kl yd yp w1 cnt1 hkey hlk hv hat hrg1 hlt hg1 hs1 hen
      obtain ⟨x', ex, rfl, _⟩ := Maps.keyOf_int_inv Tryd.underlying3 hkey
      obtain rfl : x = x' := by cases ex; rfl
      have hfx : f x = some (a1, a2) := by
        have h1 := hat (.lit (.int .i64 0))
        rw [HD.out.at_] at h1
        obtain ⟨p1, p2, hpp, hyy⟩ := amR_inv hv
        obtain ⟨rfl, rfl⟩ : p1 = a1 ∧ p2 = a2 := by simp at hpp; exact ⟨hpp.1.symm, hpp.2.symm⟩
        obtain ⟨rfl, -⟩ := Prod.mk.inj hyy
        cases hq : f x with
        | none => rw [hq] at h1; simp [amD] at h1
        | some z => rw [hq] at h1; rw [amD_inj h1]
      have hA := HA.out
      have HC := hidT (hA.2.2.2.1.step hlk hfx)
      have HB1 : Hid (Below w.heap.size w w1) := hA.2.2.2.2.1.grown hg1 hA.2.2.2.2.1.size (fun k hk => by cases hk; exact Nat.le_refl _)
      have HO1 : Hid (Own3 w1 (w.heap.size + 1) (.slice q m c) ts) := OwnM.kept hA.2.2.1 hg1 (by
        cases hq : (Value.slice q m c).ownBlock with
        | none => exact .inl rfl
        | some g => right; intro e; cases e; have := (OwnM.lt hA.2.2.1 _ hq).1; omega)
      have HS1 : Hid (w.heap.size + 1 ≤ w1.heap.size) := by show _ ≤ _; rw [hs1]; exact hA.2.2.2.2.2
      have HM : Hid (m = ts.length ∧ ts.length + 1 + cnt1 ≤ 400) := ⟨hA.1, by have := hA.2.1; omega⟩
      have HLT : Hid (cnt1 < w1.rangeLeft b w.heap.size + 1 ∧ wr.rangeLeft b w.heap.size = cnt ∧ cnt1 < cnt) := ⟨by rw [hrg1.left_eq]; omega, hrg.left_eq, hlt⟩
      clear hs1 hg1 hkey hlk hv hat hlt hA HA hfx hrg ex
      go_upto_region 5 with fail
      have hrg2 := hrg1.alloc (.cells #[.int .i64 a1, .int .i64 a2] 82)
      have hR := heap_alloc_new w1 (.cells #[.int .i64 a1, .int .i64 a2] 82)
      have HB2 : Hid (Below w.heap.size w (w1.alloc (.cells #[.int .i64 a1, .int .i64 a2] 82))) := HB1.out.alloc HB1.out.size _
      have HO2 : Hid (Own3 (w1.alloc (.cells #[.int .i64 a1, .int .i64 a2] 82)) (w.heap.size + 1) (.slice q m c) ts) := OwnM.below HO1.out ((Below.refl _ _).alloc (Nat.le_refl _) _)
      have HS2 : Hid (w.heap.size + 1 ≤ (w1.alloc (.cells #[.int .i64 a1, .int .i64 a2] 82)).heap.size) := by show _ ≤ _; rw [World.size_alloc]; have := HS1.out; omega
      clear HB1 HO1 HS1 hrg1 hen
      generalize w1.alloc (.cells #[.int .i64 a1, .int .i64 a2] 82) = V at *
      have d0 : V.cell? ⟨w1.heap.size, 0, none⟩ = some (.int .i64 a1) := by simp [World.cell?, hR]
      have d1 : V.cell? ⟨w1.heap.size, 1, none⟩ = some (.int .i64 a2) := by simp [World.cell?, hR]
      clear hR
      have HRG := hidT (hrg2.alloc (.cells #[.int .i64 x, .int .i64 a1, .int .i64 a2] 43))
      have HB3 : Hid (Below w.heap.size w (V.alloc (.cells #[.int .i64 x, .int .i64 a1, .int .i64 a2] 43))) := HB2.out.alloc HB2.out.size _
      have HO3 : Hid (OwnM (V.alloc (.cells #[.int .i64 x, .int .i64 a1, .int .i64 a2] 43)) (w.heap.size + 1) 43 3 (.slice q m c) m (flatX ts)) := by
        have := OwnM.below HO2.out ((Below.refl _ _).alloc (Nat.le_refl _) (.cells #[.int .i64 x, .int .i64 a1, .int .i64 a2] 43))
        rw [← HM.out.1] at this
        exact this
      have HS3 : Hid (w.heap.size + 1 ≤ (V.alloc (.cells #[.int .i64 x, .int .i64 a1, .int .i64 a2] 43)).heap.size) := by show _ ≤ _; rw [World.size_alloc]; have := HS2.out; omega
      have HNW : Hid (∀ j u, ([.int .i64 x, .int .i64 a1, .int .i64 a2] : List Value)[j]? = some u → (V.alloc (.cells #[.int .i64 x, .int .i64 a1, .int .i64 a2] 43)).cell? ((⟨V.heap.size, 0, none⟩ : Addr).add j) = some u) := by
        intro j u hu
        rw [Addr.add_lit, Nat.zero_add, World.cell?_alloc_at _ _ _ _ rfl]
        simpa using hu
      clear hrg2 HB2 HO2 HS2
      go_wp2_with (at_builtin; (refine wpList_append_mid _ rfl _ _ 28 rfl (w.heap.size + 1) 43 i0 zeroX 3 24 Tryd.underlying28 HI.out hz0 hz1 hz2 rfl (.slice q m c) _ _ rfl HO3.out ⟨V.heap.size, 0, none⟩ 1 1 [.int .i64 x, .int .i64 a1, .int .i64 a2] rfl rfl HNW.out (fun u hu => by simp only [List.mem_cons, List.not_mem_nil, or_false] at hu; rcases hu with rfl | rfl | rfl <;> rfl) ?c3 ?c4 ?c5 ?_))
      case c3 => have := HM.out; unfold maxLen; omega
      case c4 => have := HM.out; omega
      case c5 => have := HS3.out; simpa using this
      intro v' w' hO' hgr hbk
      obtain ⟨q2, c2, hv'⟩ := OwnM.form hO'
      subst hv'
      have hbl : ∀ k, (Value.slice q m c).ownBlock = some k → w.heap.size + 1 ≤ k := fun k hk => (OwnM.lt HO3.out k hk).1
      have HRG4 : Hid (w'.ranges Tryd.prog 3 amR b w.heap.size n D (fun z => left z && !z.sameKey (.int .i64 x)) cnt1) := HRG.out.kept hgr (fun e => by have := hbl b e.symm; have := HBW.out; omega) (fun e => by have := hbl _ e.symm; omega)
      have HNX : Hid (m + 1 = (ts ++ [(x, a1, a2)]).length ∧ (ts ++ [(x, a1, a2)]).length + cnt1 ≤ 400 ∧ Own3 w' (w.heap.size + 1) (.slice q2 (m + 1) c2) (ts ++ [(x, a1, a2)]) ∧ Col f (fun z => left z && !z.sameKey (.int .i64 x)) (ts ++ [(x, a1, a2)]) ∧ Below w.heap.size w w' ∧ w.heap.size + 1 ≤ w'.heap.size) := by
        have e1 : m + 1 = (ts ++ [(x, a1, a2)]).length := by rw [HM.out.1]; simp
        refine ⟨e1, by have := HM.out; simp; omega, ?_, HC.out, HB3.out.grown hgr HB3.out.size (fun k hk => Nat.le_trans (Nat.le_succ _) (hbl k hk)), Nat.le_trans HS3.out hgr.size⟩
        unfold Own3
        rw [← e1, flatX_append, flatX_one]
        exact hO'
      clear hO' hgr hbk hbl HRG HB3 HO3 HS3 HNW HC
      go_wp2_with fail
      go_roundw
      case rel => exact ⟨_, cnt1, q2, c2, m + 1, _, rfl, HRG4.out, HNX.out⟩
      case measure => rw [HRG4.out.left_eq, HLT.out.2.1]; exact HLT.out.2.2
end Go.Proofs.YtgpbpaimfhlnhaaDoor.tap
