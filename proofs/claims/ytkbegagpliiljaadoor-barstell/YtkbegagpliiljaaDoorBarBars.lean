/- Contracts over this seat's translation: package bars' Bars. -/
import Derived.Test.YtkbegagpliiljaaDoorBarCh
import Derived.Test.YtkbegagpliiljaaDoorBarChk
import Derived.Test.YtkbegagpliiljaaDoorBarOf2
import Derived.Maps.AppendAt
namespace Go.Proofs.YtkbegagpliiljaaDoor.bar
open Go.RowKit Go.Shelf Go.Proofs.YtkbegagpliiljaaDoor.mee
open Go.Proofs.YtkbegagpliiljaaDoor.spn (keeps spanB of_any scheck1 rangeE errV errV_zero errV_of)
attribute [local go_sem] Oper.semAt_some

/-- Trades of a part. -/
def partL (n : Nat) (zs : List T) (o : Nat) : List T := (zs.drop o).take n
/-- Bars of so many trades. -/
def barsAt (n : Nat) (zs : List T) (os : List Nat) : List B := os.map (fun o => barOf (partL n zs o))
def barsOf (zs : List T) (n : Nat) : List B := barsAt n zs (parts n (cnt n zs.length))
def barsE (zs : List T) (n : Int) : Int := if bchk zs = 0 then (if 1 ≤ n ∧ n ≤ 400 then 0 else 1) else bchk zs
def flatB (bs : List B) : List Value := bs.flatMap bV

def zeroB : Value := .agg #[.int .i64 0, .int .i64 0, .int .i64 0, .int .i64 0, .int .i64 0]
theorem infoB : (Tryd.prog.info? 26).map (fun i => (i.zero, i.size, i.bytes)) = some (some zeroB, 5, 40) := by kernel_rfl
theorem infoB' : ∃ i, Tryd.prog.info? 26 = some i ∧ i.zero = some zeroB ∧ i.size = 5 ∧ i.bytes = 40 := info_parts infoB
theorem take_min (n : Nat) (zs : List T) (i : Nat) : (zs.drop i).take (min n (zs.length - i)) = partL n zs i := by
  unfold partL
  rw [← List.length_drop, List.take_eq_take_iff]
  omega
theorem gr_of {W W' : World} (h : Below W.heap.size W W') : W.grownBy W' none := ⟨h.os, h.tape, h.output, h.size, fun k hk _ => h.block k hk⟩
theorem new5 (W : World) (vs : List Value) (e : TypeId) : ∀ j u, vs[j]? = some u → (W.alloc (.cells vs.toArray e)).cell? ((⟨W.heap.size, 0, none⟩ : Addr).add j) = some u := by
  intro j u h
  have h0 := heap_alloc_new W (.cells vs.toArray e)
  rw [Addr.add_lit]
  generalize W.alloc (.cells vs.toArray e) = V at *
  simp [World.cell?, h0, h]
theorem one5 (a b c d e : Int) : ∀ u ∈ [Value.int .i64 a, .int .i64 b, .int .i64 c, .int .i64 d, .int .i64 e], u.oneCell' = true := by
  intro u hu
  simp at hu
  rcases hu with rfl | rfl | rfl | rfl | rfl <;> rfl
theorem owns_weak {W : World} {base n0 : Nat} {e : TypeId} {size : Nat} {v : Value} {k : Nat} {xs : List Value} (h : W.ownsRow base e size v k xs) (hle : n0 ≤ base) : W.ownsRow n0 e size v k xs :=
  ⟨h.1, h.2.imp id (fun ⟨g, cap, cur, a, b, c⟩ => ⟨g, cap, cur, a, Nat.le_trans hle b, c⟩)⟩
theorem row_ge {W : World} {base : Nat} {e : TypeId} {size : Nat} {v : Value} {k : Nat} {xs : List Value} (h : W.ownsRow base e size v k xs) : ∀ j, v.ownBlock = some j → base ≤ j := by
  intro j hj
  rcases h.2 with ⟨rfl, _⟩ | ⟨g, cap, cur, rfl, hb, _⟩
  · cases hj
  · cases hj; exact hb
theorem holdsRow_own' {β : Type} (n₀ B : Nat) (t e : TypeId) (size : Nat) (k : β → Nat) (f : β → List Value) : Own (fun s W => ∃ v, Boxed W B t v ∧ W.ownsRow n₀ e size v (k s) (f s)) := by
  intro s X Y row h hg hrow
  obtain ⟨v, h1, h2⟩ := h
  obtain ⟨v', h3, h4, _⟩ := holdsRow_own n₀ B t e size k f (fun _ _ => True) s X Y row ⟨v, h1, h2, trivial⟩ hg hrow
  exact ⟨v', h3, h4⟩
theorem flatB_get : ∀ (bs : List B) (j i : Nat), j < bs.length → i < 5 → (flatB bs)[j * 5 + i]? = (bV bs[j]!)[i]?
  | [], j, i, h, _ => by simp at h
  | b :: r, 0, i, _, hi => by
    have : (bV b).length = 5 := rfl
    simp only [flatB, List.flatMap_cons]
    rw [List.getElem?_append_left (by omega)]
    simp
  | b :: r, j + 1, i, h, hi => by
    have h5 : (bV b).length = 5 := rfl
    simp only [flatB, List.flatMap_cons]
    rw [List.getElem?_append_right (by omega), h5, show (j + 1) * 5 + i - 5 = j * 5 + i by omega]
    have := flatB_get r j i (by simpa using h) hi
    simpa [flatB] using this
theorem bl_of_row {W : World} {base : Nat} {e : TypeId} {v : Value} {bs : List B} (h : W.ownsRow base e 5 v bs.length (flatB bs)) : BL W v bs := by
  rcases h.2 with ⟨rfl, h0⟩ | ⟨g, cap, cur, rfl, hb, hg, hn, hm, hs, ht⟩
  · exact .inl ⟨rfl, List.eq_nil_of_length_eq_zero h0⟩
  · refine .inr ⟨g, 0, cap, rfl, hn, by unfold maxLen at hm; omega, (Array.getElem?_eq_some_iff.1 hg).1, ?_⟩
    intro j hj i u hu
    have hi : i < 5 := by
      rcases Nat.lt_or_ge i 5 with h | h
      · exact h
      · rw [List.getElem?_eq_none (show (bV bs[j]!).length ≤ i from h)] at hu; cases hu
    rw [← flatB_get bs j i hj hi, ← ht, List.getElem?_take] at hu
    split at hu
    · rw [Nat.zero_add]
      simp only [World.cell?, hg]
      simpa using hu
    · cases hu
theorem appendedK {W w1 : World} {n0 base B : Nat} {t e : TypeId} {size : Nat} {v v' : Value} {k m : Nat} {xs ys : List Value} {tmp : Obj}
    (hv : Boxed W B t v) (hte : t ≠ e) (hrow : W.ownsRow base e size v k xs) (hb : base ≤ W.heap.size) (hB : n0 ≤ B) (hnb : n0 ≤ base)
    (hown' : w1.ownsRow base e size v' m ys) (hgrow : (W.alloc tmp).grownBy w1 v.ownBlock) :
    Boxed w1 B t v ∧ Boxed (w1.setCell ⟨B, 0, none⟩ v') B t v' ∧ (w1.setCell ⟨B, 0, none⟩ v').ownsRow base e size v' m ys ∧ KeepsOthers W (w1.setCell ⟨B, 0, none⟩ v') ∧ KB B base W (w1.setCell ⟨B, 0, none⟩ v') ∧ Below n0 W (w1.setCell ⟨B, 0, none⟩ v') := by
  obtain ⟨h1, h2, h3, h4, h5⟩ := hv.appended hte (owns_weak hrow hnb) (Nat.le_trans hnb hb) hB (owns_weak hown' hnb) hgrow
  refine ⟨h1, h2, hown'.kept (grownBy_setCell' w1 B v') (.inr (h1.not_row hte hown').symm), h4, ?_, h5⟩
  intro k hk hne
  refine (Below.heap_setCell w1 ⟨B, 0, none⟩ v' k hne).trans ((hgrow.block k (by rw [World.size_alloc]; omega) (fun e' => ?_)).trans (Below.heap_alloc W tmp k (by omega)))
  have := row_ge hrow k e'.symm
  omega
theorem opIn_append_own {F : Fence} {n : Nat} {P : Program} {w : World} {ops : Array Oper} {o : Oper} {a : Act} {Q : Exit → Act → World → Prop} {K : Act → World → Prop} {E : Prop}
    (hg : o.guard = none) (s x : Operand) (t : TypeId) (hop : o.op = Op.call { callee := Callee.builtin Builtin.append, args := #[s, x], argTypes := #[t, t] })
    (base : Nat) (e : TypeId) (i : TypeInfo) (z : Value) (size bytes : Nat) (h1 : P.underlying t = some (.slice e)) (h2 : P.info? e = some i) (h3 : i.zero = some z) (h4 : i.size = size) (h5 : i.bytes = bytes) (h6 : z.cells.size = size) (h7 : 0 < size)
    (v : Value) (k : Nat) (xs : List Value) (hs : a.eval s = v) (hown : w.ownsRow base e size v k xs) (ad : Addr) (m c : Nat) (news : List Value) (hx : a.eval x = .slice (some ad) m c) (hn : news.length = m * size)
    (hc : ∀ j u, news[j]? = some u → w.cell? (ad.add j) = some u) (h1c : ∀ u ∈ news, u.oneCell' = true) (b1 : k + m ≤ maxLen) (b2 : (k + m) * bytes ≤ 140737488355328) (b3 : base ≤ w.heap.size)
    (hK : ∀ v' w', w'.ownsRow base e size v' (k + m) (xs ++ news) → w.grownBy w' v.ownBlock → (v' = .slice none 0 0 ↔ v = .slice none 0 0 ∧ m = 0) → K (a.put o.dst v') w') :
    if Region.wanted o (yielded ops a.tmps) = true then Oper.wpIn F n P o a w K Q else E := by
  rw [if_pos (by simp [Region.wanted, hg])]
  obtain ⟨v', w', hrun, r1, r2, r3⟩ := run_append_own (P := P) w base t o.type e i z size bytes h1 h2 h3 h4 h5 h6 h7 v k xs hown ad m c news hn hc h1c b1 b2 b3
  unfold Oper.wpIn
  refine ⟨?_, ?_⟩
  · simp [Oper.about, hop, resolve, Target.leads, Sem.run_pure]
  · rw [Oper.semAt_plain F _ _ (by rw [hop]; intro c hc'; cases hc')]
    simp [execOp, hop, resolve, invoke, builtin, hs, hx, hrun, Result.andThen]
    exact hK _ _ r1 r2 r3

set_option maxRecDepth 100000 in
set_option maxHeartbeats 2000000 in
theorem bars_good (q : Option Addr) (c : Nat) (zs : List T) (n : Nat) (w : World) (h : TL w (.slice q zs.length c) zs) (h0 : bchk zs = 0) (hn : 1 ≤ n) (hn4 : n ≤ 400) :
    Calls Tryd.prog 6 #[.slice q zs.length c, .int .i64 n] w fun e w' =>
      ∃ v', e = .returned (.tuple #[v', .nilIface]) ∧ BL w' v' (barsOf zs n) ∧ Below w.heap.size w w' := by
  have HC := hidT (check_any _ zs w h)
  rw [h0, errV_zero] at HC
  have HOF := hidT (fun V => of_any n 1 400 V)
  have hlt : zs.length ≤ 400 ∧ zs.length ≤ c ∧ c ≤ 9223372036854775807 := by
    refine ⟨?_, ?_⟩
    · unfold bchk at h0
      split at h0
      · cases h0
      · omega
    · obtain ⟨q', c', e, h1, h2⟩ := h.form
      cases e
      exact ⟨h1, h2⟩
  have HL := hidT hlt
  have HR : Hid ([((n : Int), 1, 400)].any spanB = false) := by
    show _ = false
    simp [spanB]
    omega
  have HCH : Hid (∀ (q : Option Addr) (len cap : Nat) (w : World), _) := fun q len cap w => chunk_in q len cap n hn w
  have HT : Hid (TL w (.slice q zs.length c) zs) := h
  obtain ⟨len, hlen⟩ : ∃ n, zs.length = n := ⟨_, rfl⟩
  have HN := hidT hlen
  simp only [hlen] at HC ⊢
  clear hlen h h0 hlt
  refine (callsIn_wide (n := 5)).1 ?_
  refine callsIn_of_wp_marks Tryd.func6 rfl trivial ?_ rfl
  simp only [Tryd.ntmps6, List.size_toArray, List.length_cons, List.length_nil, Nat.reduceAdd, Nat.reduceSub, Array.replicate_succ, Array.replicate_zero, List.push_toArray, List.append_toArray, List.nil_append, List.cons_append]
  gi_wp2_with (first | (refine ⟨trivial, ?_⟩; gi_at_call 13; refine (callsIn_wide.2 HC.out).mono ?_; rintro e w1 ⟨rfl, hb1⟩) | (refine ⟨trivial, ?_⟩; gi_at_call 15; refine (callsIn_wide.2 (HOF.out _)).mono ?_; rintro e w2 ⟨rfl, hb2⟩) | (refine ⟨trivial, ?_⟩; gi_at_call 14; refine (callsIn_wide.2 (scheck1 false _ _ _ _ _ rfl HR.out)).mono ?_; rintro e w3 ⟨rfl, hb3⟩; simp only [show errV (rangeE false) = .nilIface from rfl]) | (refine ⟨trivial, ?_⟩; gi_at_call 16; refine (callsIn_wide.2 (HCH.out _ _ _ _)).mono ?_; rintro e w4 ⟨rfl, rfl⟩))
  have HB3 : Hid (Below w.heap.size w w3) := (hb1.trans (hb2.mono hb1.size)).trans (hb3.mono (Nat.le_trans hb1.size hb2.size))
  clear HC HOF HR HCH hb1 hb2 hb3
  obtain ⟨P, hP⟩ : ∃ P, P = w3.heap.size := ⟨_, rfl⟩
  obtain ⟨W0, hW0⟩ : ∃ W0, W0 = ((w3.alloc (.cells #[.slice none 0 0] 23)).alloc (.cells #[.slice q len c] 22)).alloc (.cells #[.int .i64 n] 3) := ⟨_, rfl⟩
  have HS0 : Hid (W0.heap.size = P + 3) := by show _ = _; rw [hW0, hP]; simp
  have HB0 : Hid (Below w.heap.size w W0) := by
    rw [hW0]
    exact ((HB3.out.alloc HB3.out.size _).alloc (by have := HB3.out.size; simp; omega) _).alloc (by have := HB3.out.size; simp; omega) _
  have HP : Hid (w.heap.size ≤ P) := by rw [hP]; exact HB3.out.size
  have HX0 : Hid (Boxed W0 P 23 (.slice none 0 0)) := by
    rw [hW0, hP]; exact ((Boxed.new w3 _ _).alloc _).alloc _
  have HX1 : Hid (W0.cell? ⟨P + 1, 0, none⟩ = some (.slice q len c)) := by
    have := ((Boxed.new (w3.alloc (.cells #[.slice none 0 0] 23)) 22 (.slice q len c)).alloc (.cells #[.int .i64 n] 3)).cell
    rw [World.size_alloc] at this
    rw [hW0, hP]; exact this
  have HX2 : Hid (W0.cell? ⟨P + 2, 0, none⟩ = some (.int .i64 n)) := by
    have := (Boxed.new ((w3.alloc (.cells #[.slice none 0 0] 23)).alloc (.cells #[.slice q len c] 22)) 3 (.int .i64 n)).cell
    rw [World.size_alloc, World.size_alloc] at this
    rw [hW0, hP]; exact this
  simp only [← hP, ← hW0, Nat.add_assoc, Nat.reduceAdd]
  obtain ⟨b, off, hq⟩ : ∃ b off, 0 < len → q = some ⟨b, off, none⟩ := by
    rcases HT.out with ⟨h1, h2⟩ | ⟨b, o, c', h1, _⟩
    · exact ⟨0, 0, fun h => by rw [← HN.out, h2] at h; simp at h⟩
    · cases h1; exact ⟨b, o, fun _ => rfl⟩
  have hlen4 : len ≤ 400 ∧ len ≤ c := by rw [← HN.out]; exact ⟨HL.out.1, HL.out.2.1⟩
  obtain ⟨i0, hi0, hz0, hz1, hz2⟩ := infoB'
  have HI := hidT hi0
  clear hP hW0 hi0
  refine wpIn_rangeFunc_ownG (n := 5) rfl (by omega) (gf := 29) (lb := #[.pointer (some ⟨P + 1, 0, none⟩), .pointer (some ⟨P + 2, 0, none⟩)]) rfl trivial (enters_of Tryd.func29 (by kernel_rfl) rfl)
    (chunk_stops 4 (by omega) (P + 1) (P + 2) P b off len c n q hn hn4 hlen4.1 hlen4.2 hq W0 (by rw [HS0.out]; omega) (by omega) (by rw [HS0.out]; omega) (by omega) HX1.out HX2.out) KB.trans (fun W l o o' h1 h2 h3 h4 => KB.put (Nat.le_refl _) W l o o' h1 h2 h3 h4) (Below.refl _ _) (fun _ => rfl)
    (fun pre W => (∃ v, Boxed W P 23 v ∧ W.ownsRow W0.heap.size 26 5 v pre.length (flatB (barsAt n zs (beg pre)))) ∧ Below w.heap.size W0 W)
    (fun _ _ _ => False)
    (OwnFrom.and (Own.from (holdsRow_own' W0.heap.size P 23 26 5 (fun pre : List (Fin len) => pre.length) (fun pre => flatB (barsAt n zs (beg pre)))) _) (ownFrom_below HB0.out.size HB0.out.size))
    (fun _ _ _ _ _ hs _ _ => hs)
    ⟨⟨_, HX0.out, World.ownsRow_nil _ _ _ _⟩, Below.refl _ _⟩
    (fun x => { tmps := #[.slice q len c, .int .i64 n, undef, undef, .slice none 0 0, .nilIface, .nilIface, .nilIface, .pointer (some ⟨P, 0, none⟩), .slice (some ⟨b, off + x.1 * 6, none⟩) (min n (len - x.1)) (min n (len - x.1)), .slice q len c,
      .nilIface, .nilIface, .bool false, undef, .int .i64 n, .agg #[.int .i64 n, .int .i64 1, .int .i64 400], .slice (some ⟨w2.heap.size, 0, none⟩) 1 1, .nilIface, .nilIface, .bool false,
      undef, .slice q len c, .int .i64 n, .func (.func 29) #[] #[.pointer (some ⟨P + 1, 0, none⟩), .pointer (some ⟨P + 2, 0, none⟩)],
      .slice (some ⟨b, off + x.1 * 6, none⟩) (min n (len - x.1)) (min n (len - x.1)), undef, undef, undef, undef, undef, undef], defers := [] }) ?assign ?body ?done ?stop
  case assign =>
    intro l x W K hK
    gi_wp2
    exact hK
  case body =>
    rintro l pre x W ⟨⟨v, hv0, hrow0⟩, hBW⟩ hpl
    have hv := hidT hv0
    have hrow := hidT hrow0
    have hx : x.1 < zs.length := by rw [HN.out]; exact x.2
    have hxl := x.2
    have hq' : q = some ⟨b, off, none⟩ := hq (by omega)
    have HBO : Hid (∀ V, Below W.heap.size W V → Calls Tryd.prog 17 #[.slice (some ⟨b, off + x.1 * 6, none⟩) (min n (len - x.1)) (min n (len - x.1))] V fun e w' => e = .returned (.agg (bV (barOf (partL n zs x.1))).toArray) ∧ Below W.heap.size W w') := fun V hV => by
      have h1 := HT.out.below (HB0.out.trans (hBW.trans (hV.mono (Nat.le_trans HB0.out.size hBW.size))))
      rw [hq'] at h1
      have h2 := h1.part (i := x.1) (m := min n (len - x.1)) (d := min n (len - x.1)) (by rw [HN.out]; omega) (Nat.le_refl _) (by omega)
      have e : (zs.drop x.1).take (min n (len - x.1)) = partL n zs x.1 := by have h9 := take_min n zs x.1; rw [HN.out] at h9; exact h9
      rw [e] at h2
      exact (barOf_any _ _ V h2 (by rw [← e]; simp only [List.length_take, List.length_drop]; omega)).mono fun _ _ h' => ⟨h'.1, hV.trans (h'.2.mono hV.size)⟩
    have hacc : flatB (barsAt n zs (beg (pre ++ [x]))) = flatB (barsAt n zs (beg pre)) ++ bV (barOf (partL n zs x.1)) := by simp [flatB, barsAt, beg]
    have hl1 : (pre ++ [x]).length = pre.length + 1 := by simp
    have HSW : Hid (W0.heap.size ≤ W.heap.size) := hBW.size
    have HPL : Hid (pre.length + 1 ≤ maxLen ∧ (pre.length + 1) * 40 ≤ 140737488355328) := ⟨by unfold maxLen; omega, by omega⟩
    have HKO : Hid (∀ (w2 W' : World), Below W.heap.size W w2 → KeepsOthers w2 W' → KeepsOthers W W') := fun w2 W' h1 h2 => (KeepsOthers.of_grownBy (gr_of h1) (fun j o e _ => by cases e)).trans h2
    have HKK : Hid (∀ (w2 W' : World), Below W.heap.size W w2 → KB P W0.heap.size w2 W' → KB P W0.heap.size W W') := fun w2 W' h1 h2 k hk hne => (h2 k hk hne).trans (h1.block k (Nat.lt_of_lt_of_le hk HSW.out))
    have HBL : Hid (∀ (w2 W' : World), Below W.heap.size W w2 → Below w.heap.size w2 W' → Below w.heap.size W0 W') := fun w2 W' h1 h2 => (hBW.trans (h1.mono (Nat.le_trans HB0.out.size hBW.size))).trans h2
    have hc := hv0.cell
    have HP2 : Hid (w.heap.size ≤ P) := HP.out
    generalize barOf (partL n zs x.1) = R at *
    obtain ⟨o, h, lo, cl, qt⟩ := R
    have HBP : Hid (∀ V, Below W.heap.size W V → Calls Tryd.prog 17 #[.slice (some ⟨b, off + x.1 * 6, none⟩) (min n (len - x.1)) (min n (len - x.1))] V fun e w' => e = .returned (.agg #[.int .i64 o, .int .i64 h, .int .i64 lo, .int .i64 cl, .int .i64 qt]) ∧ Below W.heap.size W w') := HBO.out
    clear HBO
    have HL1 := hidT hl1
    have HAC := hidT hacc
    clear hacc hl1 hx hxl hq' hv0 hrow0 hBW hpl hq hlen4 hn hn4
    generalize min n (len - x.1) = ee at *
    gi_wp2
    refine wpIn_region_any (by kernel_rfl) ?_
    try (change wpAnyIn _ _ _ _ _ _ _ _ _ (World.drew _))
    refine wpAnyIn_ready (rs := [0, 1]) (by kernel_rfl) (by simp) ?_
    refine AllReadyIn.cons rfl (fun K hK => ?_) ?_
    · go_simp
      refine hK _ _ ?_
      clear hK K
      refine wpAnyIn_ready (rs := [1]) (by kernel_rfl) (by simp) ?_
      refine AllReadyIn.cons rfl (fun K hK => ?_) ?_
      · go_simp
        refine hK _ _ ?_
        clear hK K
        refine wpAnyIn_ready (rs := [2]) (by kernel_rfl) (by simp) ?_
        refine AllReadyIn.cons rfl (fun K hK => ?_) ?_
        · go_simp
          gi_wp2_with (refine ⟨trivial, ?_⟩; gi_at_call 17; refine (CallsIn.inRound l (callsIn_wide.2 (HBP.out _ (Below.refl _ W).drew))).mono ?_; rintro e W2 ⟨rfl, hb2⟩)
          have hv2 : Hid (Boxed W2 P 23 v) := (hb2.block P hv.out.lt).trans hv.out
          have hrow2 := hidT (hrow.out.kept (gr_of hb2) (Classical.em _))
          have hc2 := hv2.out.cell
          have hcA := fun o => (hv2.out.alloc o).cell
          refine wpAnyIn_ready (rs := [3]) (by kernel_rfl) (by simp) ?_
          refine AllReadyIn.cons rfl (fun K hK => ?_) ?_
          · go_simp
            refine hK _ _ ?_
            clear hK K
            refine wpAnyIn_ready (rs := [4]) (by kernel_rfl) (by simp) ?_
            refine AllReadyIn.cons rfl (fun K hK => ?_) ?_
            · refine opIn_append_own rfl _ _ 23 rfl W0.heap.size 26 i0 zeroB 5 40 Tryd.underlying23 HI.out hz0 hz1 hz2 rfl (by decide) v _ _ rfl (hrow2.out.alloc _) ⟨W2.heap.size, 0, none⟩ 1 1 [.int .i64 o, .int .i64 h, .int .i64 lo, .int .i64 cl, .int .i64 qt] rfl rfl (new5 W2 _ _) (one5 _ _ _ _ _) HPL.out.1 HPL.out.2 (Nat.le_trans (Nat.le_trans HSW.out hb2.size) (World.grownBy_alloc W2 _ none).size) ?_
              intro v' w5 hown' hgrow _
              obtain ⟨g', cap', rfl⟩ := ownsRow_succ hown'
              obtain ⟨hv5, hv6, hr6, hk6, hkb6, hbl6⟩ := appendedK hv2.out (by decide) hrow2.out (Nat.le_trans HSW.out hb2.size) HP.out HB0.out.size hown' hgrow
              have hc5 := hv5.cell
              have hf5 := hv5.frozen
              refine hK _ _ ?_
              clear hK K hc2 hcA
              refine wpAnyIn_ready (rs := [5]) (by kernel_rfl) (by simp) ?_
              refine AllReadyIn.cons rfl (fun K hK => ?_) ?_
              · go_simp
                refine hK _ _ ?_
                clear hK K
                refine wpAnyIn_done (by kernel_rfl) ?_ _
                exact ⟨(HKO.out _ _ hb2 hk6).from _, HKK.out _ _ hb2 hkb6, ⟨_, hv6, by rw [HL1.out, HAC.out]; exact hr6⟩, HBL.out _ _ hb2 hbl6⟩
              exact AllReadyIn.nil
            exact AllReadyIn.nil
          exact AllReadyIn.nil
        exact AllReadyIn.nil
      exact AllReadyIn.nil
    refine AllReadyIn.cons rfl (fun K hK => ?_) ?_
    · go_simp
      refine hK _ _ ?_
      clear hK K
      refine wpAnyIn_ready (rs := [0, 2]) (by kernel_rfl) (by simp) ?_
      refine AllReadyIn.cons rfl (fun K hK => ?_) ?_
      · go_simp
        refine hK _ _ ?_
        clear hK K
        refine wpAnyIn_ready (rs := [2]) (by kernel_rfl) (by simp) ?_
        refine AllReadyIn.cons rfl (fun K hK => ?_) ?_
        · go_simp
          gi_wp2_with (refine ⟨trivial, ?_⟩; gi_at_call 17; refine (CallsIn.inRound l (callsIn_wide.2 (HBP.out _ (Below.refl _ W).drew))).mono ?_; rintro e W2 ⟨rfl, hb2⟩)
          have hv2 : Hid (Boxed W2 P 23 v) := (hb2.block P hv.out.lt).trans hv.out
          have hrow2 := hidT (hrow.out.kept (gr_of hb2) (Classical.em _))
          have hc2 := hv2.out.cell
          have hcA := fun o => (hv2.out.alloc o).cell
          refine wpAnyIn_ready (rs := [3]) (by kernel_rfl) (by simp) ?_
          refine AllReadyIn.cons rfl (fun K hK => ?_) ?_
          · go_simp
            refine hK _ _ ?_
            clear hK K
            refine wpAnyIn_ready (rs := [4]) (by kernel_rfl) (by simp) ?_
            refine AllReadyIn.cons rfl (fun K hK => ?_) ?_
            · refine opIn_append_own rfl _ _ 23 rfl W0.heap.size 26 i0 zeroB 5 40 Tryd.underlying23 HI.out hz0 hz1 hz2 rfl (by decide) v _ _ rfl (hrow2.out.alloc _) ⟨W2.heap.size, 0, none⟩ 1 1 [.int .i64 o, .int .i64 h, .int .i64 lo, .int .i64 cl, .int .i64 qt] rfl rfl (new5 W2 _ _) (one5 _ _ _ _ _) HPL.out.1 HPL.out.2 (Nat.le_trans (Nat.le_trans HSW.out hb2.size) (World.grownBy_alloc W2 _ none).size) ?_
              intro v' w5 hown' hgrow _
              obtain ⟨g', cap', rfl⟩ := ownsRow_succ hown'
              obtain ⟨hv5, hv6, hr6, hk6, hkb6, hbl6⟩ := appendedK hv2.out (by decide) hrow2.out (Nat.le_trans HSW.out hb2.size) HP.out HB0.out.size hown' hgrow
              have hc5 := hv5.cell
              have hf5 := hv5.frozen
              refine hK _ _ ?_
              clear hK K hc2 hcA
              refine wpAnyIn_ready (rs := [5]) (by kernel_rfl) (by simp) ?_
              refine AllReadyIn.cons rfl (fun K hK => ?_) ?_
              · go_simp
                refine hK _ _ ?_
                clear hK K
                refine wpAnyIn_done (by kernel_rfl) ?_ _
                exact ⟨(HKO.out _ _ hb2 hk6).from _, HKK.out _ _ hb2 hkb6, ⟨_, hv6, by rw [HL1.out, HAC.out]; exact hr6⟩, HBL.out _ _ hb2 hbl6⟩
              exact AllReadyIn.nil
            exact AllReadyIn.nil
          exact AllReadyIn.nil
        exact AllReadyIn.nil
      refine AllReadyIn.cons rfl (fun K hK => ?_) ?_
      · go_simp
        gi_wp2_with (refine ⟨trivial, ?_⟩; gi_at_call 17; refine (CallsIn.inRound l (callsIn_wide.2 (HBP.out _ (Below.refl _ W).drew))).mono ?_; rintro e W2 ⟨rfl, hb2⟩)
        have hv2 : Hid (Boxed W2 P 23 v) := (hb2.block P hv.out.lt).trans hv.out
        have hrow2 := hidT (hrow.out.kept (gr_of hb2) (Classical.em _))
        have hc2 := hv2.out.cell
        have hcA := fun o => (hv2.out.alloc o).cell
        refine wpAnyIn_ready (rs := [0, 3]) (by kernel_rfl) (by simp) ?_
        refine AllReadyIn.cons rfl (fun K hK => ?_) ?_
        · go_simp
          refine hK _ _ ?_
          clear hK K
          refine wpAnyIn_ready (rs := [3]) (by kernel_rfl) (by simp) ?_
          refine AllReadyIn.cons rfl (fun K hK => ?_) ?_
          · go_simp
            refine hK _ _ ?_
            clear hK K
            refine wpAnyIn_ready (rs := [4]) (by kernel_rfl) (by simp) ?_
            refine AllReadyIn.cons rfl (fun K hK => ?_) ?_
            · refine opIn_append_own rfl _ _ 23 rfl W0.heap.size 26 i0 zeroB 5 40 Tryd.underlying23 HI.out hz0 hz1 hz2 rfl (by decide) v _ _ rfl (hrow2.out.alloc _) ⟨W2.heap.size, 0, none⟩ 1 1 [.int .i64 o, .int .i64 h, .int .i64 lo, .int .i64 cl, .int .i64 qt] rfl rfl (new5 W2 _ _) (one5 _ _ _ _ _) HPL.out.1 HPL.out.2 (Nat.le_trans (Nat.le_trans HSW.out hb2.size) (World.grownBy_alloc W2 _ none).size) ?_
              intro v' w5 hown' hgrow _
              obtain ⟨g', cap', rfl⟩ := ownsRow_succ hown'
              obtain ⟨hv5, hv6, hr6, hk6, hkb6, hbl6⟩ := appendedK hv2.out (by decide) hrow2.out (Nat.le_trans HSW.out hb2.size) HP.out HB0.out.size hown' hgrow
              have hc5 := hv5.cell
              have hf5 := hv5.frozen
              refine hK _ _ ?_
              clear hK K hc2 hcA
              refine wpAnyIn_ready (rs := [5]) (by kernel_rfl) (by simp) ?_
              refine AllReadyIn.cons rfl (fun K hK => ?_) ?_
              · go_simp
                refine hK _ _ ?_
                clear hK K
                refine wpAnyIn_done (by kernel_rfl) ?_ _
                exact ⟨(HKO.out _ _ hb2 hk6).from _, HKK.out _ _ hb2 hkb6, ⟨_, hv6, by rw [HL1.out, HAC.out]; exact hr6⟩, HBL.out _ _ hb2 hbl6⟩
              exact AllReadyIn.nil
            exact AllReadyIn.nil
          exact AllReadyIn.nil
        refine AllReadyIn.cons rfl (fun K hK => ?_) ?_
        · go_simp
          refine hK _ _ ?_
          clear hK K
          refine wpAnyIn_ready (rs := [0]) (by kernel_rfl) (by simp) ?_
          refine AllReadyIn.cons rfl (fun K hK => ?_) ?_
          · go_simp
            refine hK _ _ ?_
            clear hK K
            refine wpAnyIn_ready (rs := [4]) (by kernel_rfl) (by simp) ?_
            refine AllReadyIn.cons rfl (fun K hK => ?_) ?_
            · refine opIn_append_own rfl _ _ 23 rfl W0.heap.size 26 i0 zeroB 5 40 Tryd.underlying23 HI.out hz0 hz1 hz2 rfl (by decide) v _ _ rfl (hrow2.out.alloc _) ⟨W2.heap.size, 0, none⟩ 1 1 [.int .i64 o, .int .i64 h, .int .i64 lo, .int .i64 cl, .int .i64 qt] rfl rfl (new5 W2 _ _) (one5 _ _ _ _ _) HPL.out.1 HPL.out.2 (Nat.le_trans (Nat.le_trans HSW.out hb2.size) (World.grownBy_alloc W2 _ none).size) ?_
              intro v' w5 hown' hgrow _
              obtain ⟨g', cap', rfl⟩ := ownsRow_succ hown'
              obtain ⟨hv5, hv6, hr6, hk6, hkb6, hbl6⟩ := appendedK hv2.out (by decide) hrow2.out (Nat.le_trans HSW.out hb2.size) HP.out HB0.out.size hown' hgrow
              have hc5 := hv5.cell
              have hf5 := hv5.frozen
              refine hK _ _ ?_
              clear hK K hc2 hcA
              refine wpAnyIn_ready (rs := [5]) (by kernel_rfl) (by simp) ?_
              refine AllReadyIn.cons rfl (fun K hK => ?_) ?_
              · go_simp
                refine hK _ _ ?_
                clear hK K
                refine wpAnyIn_done (by kernel_rfl) ?_ _
                exact ⟨(HKO.out _ _ hb2 hk6).from _, HKK.out _ _ hb2 hkb6, ⟨_, hv6, by rw [HL1.out, HAC.out]; exact hr6⟩, HBL.out _ _ hb2 hbl6⟩
              exact AllReadyIn.nil
            exact AllReadyIn.nil
          exact AllReadyIn.nil
        exact AllReadyIn.nil
      exact AllReadyIn.nil
    exact AllReadyIn.nil
  case done =>
    rintro D ys W hD hys ⟨⟨v, hv, hrow⟩, hB⟩ hK
    have hc := hv.cell
    gi_wp2
    refine ⟨by simp, .inl ⟨_, _, rfl, run_takeDeferred hK, ?_⟩⟩
    refine ⟨_, results_tmp2 rfl _ _ _, v, rfl, ?_, (HB0.out.trans hB).trans (belowK_b (w := W0) HB0.out.size W D _ _ hD hK rfl rfl)⟩
    have hr := ownsRow_putObj hrow (.deferred none) hK rfl
    have e1 : barsAt n zs (beg ys) = barsOf zs n := by rw [hys, ← HN.out]; rfl
    have e2 : ys.length = (barsAt n zs (beg ys)).length := by simp [barsAt, beg]
    rw [e2, e1] at hr
    exact bl_of_row hr
  case stop =>
    rintro D cc pre W _ _ hx _
    exact hx.elim
set_option maxRecDepth 100000 in
set_option maxHeartbeats 1000000 in
theorem bars_bad1 (q : Option Addr) (c : Nat) (zs : List T) (n : Int) (w : World) (h : TL w (.slice q zs.length c) zs) (h0 : ¬ bchk zs = 0) :
    Calls Tryd.prog 6 #[.slice q zs.length c, .int .i64 n] w fun e w' => e = .returned (.tuple #[.slice none 0 0, errV (bchk zs)]) ∧ Below w.heap.size w w' := by
  have HC := hidT (check_any _ zs w h)
  rw [errV_of h0] at HC ⊢
  clear h h0
  generalize bchk zs = k at *
  generalize zs.length = len at *
  refine (callsIn_wide (n := 5)).1 ?_
  refine callsIn_of_wp_marks Tryd.func6 rfl trivial ?_ rfl
  simp only [Tryd.ntmps6, List.size_toArray, List.length_cons, List.length_nil, Nat.reduceAdd, Nat.reduceSub, Array.replicate_succ, Array.replicate_zero, List.push_toArray, List.append_toArray, List.nil_append, List.cons_append]
  gi_wp2_with (refine ⟨trivial, ?_⟩; gi_at_call 13; refine (callsIn_wide.2 HC.out).mono ?_; rintro e w1 ⟨rfl, hb1⟩)
  exact ⟨_, results_tmp2 rfl _ _ _, rfl, hb1⟩
set_option maxRecDepth 100000 in
set_option maxHeartbeats 1000000 in
theorem bars_bad2 (q : Option Addr) (c : Nat) (zs : List T) (n : Int) (w : World) (h : TL w (.slice q zs.length c) zs) (h0 : bchk zs = 0) (hn : ¬ (1 ≤ n ∧ n ≤ 400)) :
    Calls Tryd.prog 6 #[.slice q zs.length c, .int .i64 n] w fun e w' => e = .returned (.tuple #[.slice none 0 0, .iface 52 (.int .i64 1)]) ∧ Below w.heap.size w w' := by
  have HC := hidT (check_any _ zs w h)
  rw [h0, errV_zero] at HC
  have HOF := hidT (fun V => of_any n 1 400 V)
  have HR : Hid ([(n, 1, 400)].any spanB = true) := by
    show _ = true
    simp [spanB]
    omega
  clear h h0 hn
  generalize zs.length = len at *
  refine (callsIn_wide (n := 5)).1 ?_
  refine callsIn_of_wp_marks Tryd.func6 rfl trivial ?_ rfl
  simp only [Tryd.ntmps6, List.size_toArray, List.length_cons, List.length_nil, Nat.reduceAdd, Nat.reduceSub, Array.replicate_succ, Array.replicate_zero, List.push_toArray, List.append_toArray, List.nil_append, List.cons_append]
  gi_wp2_with (first | (refine ⟨trivial, ?_⟩; gi_at_call 13; refine (callsIn_wide.2 HC.out).mono ?_; rintro e w1 ⟨rfl, hb1⟩) | (refine ⟨trivial, ?_⟩; gi_at_call 15; refine (callsIn_wide.2 (HOF.out _)).mono ?_; rintro e w2 ⟨rfl, hb2⟩) | (refine ⟨trivial, ?_⟩; gi_at_call 14; refine (callsIn_wide.2 (scheck1 true _ _ _ _ _ rfl HR.out)).mono ?_; rintro e w3 ⟨rfl, hb3⟩; simp only [show errV (rangeE true) = .iface 52 (.int .i64 1) from rfl]))
  exact ⟨_, results_tmp2 rfl _ _ _, rfl, (hb1.trans (hb2.mono hb1.size)).trans (hb3.mono (Nat.le_trans hb1.size hb2.size))⟩
theorem bars_any (v : Value) (zs : List T) (n : Int) (w : World) (h : TL w v zs) :
    Calls Tryd.prog 6 #[v, .int .i64 n] w fun e w' =>
      ∃ v', e = .returned (.tuple #[v', errV (barsE zs n)]) ∧ BL w' v' (if barsE zs n = 0 then barsOf zs n.toNat else []) ∧ Below w.heap.size w w' := by
  obtain ⟨q, c, rfl, h1, h2⟩ := h.form
  unfold barsE
  by_cases h0 : bchk zs = 0
  · by_cases hn : 1 ≤ n ∧ n ≤ 400
    · obtain ⟨m, rfl⟩ : ∃ m : Nat, n = m := ⟨n.toNat, by omega⟩
      refine (bars_good q c zs m w h h0 (by omega) (by omega)).mono ?_
      rintro e w' ⟨v', rfl, h3, h4⟩
      refine ⟨v', by simp [h0, hn, errV_zero], by simpa [h0, hn] using h3, h4⟩
    · refine (bars_bad2 q c zs n w h h0 hn).mono ?_
      rintro e w' ⟨rfl, h4⟩
      exact ⟨.slice none 0 0, by simp [h0, hn, errV], by simpa [h0, hn] using .inl ⟨rfl, rfl⟩, h4⟩
  · refine (bars_bad1 q c zs n w h h0).mono ?_
    rintro e w' ⟨rfl, h4⟩
    exact ⟨.slice none 0 0, by simp [h0], by simpa [h0] using .inl ⟨rfl, rfl⟩, h4⟩
end Go.Proofs.YtkbegagpliiljaaDoor.bar
