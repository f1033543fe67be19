/- Contracts over this seat's translation: package tape's trades, Volume, Last. -/
import Derived.Test.YtgpbpaimfhlnhaaDoorTapChk
import Derived.Test.YtgpbpaimfhlnhaaDoorOwnGen
namespace Go.Proofs.YtgpbpaimfhlnhaaDoor.tap
open Go.RowKit Go.Proofs.YtgpbpaimfhlnhaaDoor.mee Go.Proofs.YtgpbpaimfhlnhaaDoor.flr
open Go.Proofs.YtgpbpaimfhlnhaaDoor.spn (keeps rangeE errV errV_zero errV_of)
open Go.Proofs.YtgpbpaimfhlnhaaDoor.wak (OwnM wpList_append_mid own_of own_range)

theorem wrapSuccT (k n : Nat) (h : k < n) (hn : n ≤ 9223372036854775807) : wrap64 ((k : Int) + 1) = ((k + 1 : Nat) : Int) := by unfold wrap64; omega
def flatT (l : List T) : List Value := l.flatMap tV
theorem flatT_append (a b : List T) : flatT (a ++ b) = flatT a ++ flatT b := by unfold flatT; rw [List.flatMap_append]
theorem flatT_one (e : T) : flatT [e] = tV e := by simp [flatT]
theorem flatT_cons (e : T) (t : List T) : flatT (e :: t) = tV e ++ flatT t := by simp [flatT]
theorem flatT_get (l : List T) : ∀ j, j < l.length → ∀ i, i < 6 → (flatT l)[j * 6 + i]? = (tV l[j]!)[i]? := by
  induction l with
  | nil => intro j hj; simp at hj
  | cons r t ih =>
    intro j hj i hi
    have e6 : (tV r).length = 6 := rfl
    rw [flatT_cons]
    cases j with
    | zero => rw [Nat.zero_mul, Nat.zero_add, List.getElem?_append_left (by rw [e6]; exact hi)]; rfl
    | succ j =>
      rw [List.getElem?_append_right (by rw [e6]; omega)]
      have : (j + 1) * 6 + i - (tV r).length = j * 6 + i := by rw [e6]; omega
      rw [this, ih j (by simpa using hj) i hi]
      rfl
/-- The trades that were told, in order. -/
def trs (l : List Ev) : List T := l.filterMap fun e => if e.what = 2 then some e.tr else none
theorem trs_append (a b : List Ev) : trs (a ++ b) = trs a ++ trs b := by unfold trs; rw [List.filterMap_append]
theorem trs_len (l : List Ev) : (trs l).length ≤ l.length := List.length_filterMap_le _ _
theorem take_succ_at {α : Type} [Inhabited α] {l : List α} {k : Nat} (h : k < l.length) : l.take (k + 1) = l.take k ++ [l[k]!] := by
  rw [List.take_succ_eq_append_getElem h, getE l k h]
theorem trs_yes {l : List Ev} {k : Nat} (h : k < l.length) (h2 : (l[k]!).what = 2) : trs (l.take (k + 1)) = trs (l.take k) ++ [(l[k]!).tr] := by
  rw [take_succ_at h, trs_append]
  congr 1
  simp only [trs, List.filterMap_cons, List.filterMap_nil, if_pos h2]
theorem trs_no {l : List Ev} {k : Nat} (h : k < l.length) (h2 : ¬ (l[k]!).what = 2) : trs (l.take (k + 1)) = trs (l.take k) := by
  rw [take_succ_at h, trs_append]
  simp only [trs, List.filterMap_cons, List.filterMap_nil, if_neg h2, List.append_nil]
def zeroV : Value := .agg #[.int .i64 0, .int .i64 0, .int .i64 0, .int .i64 0, .int .i64 0, .int .i64 0]
theorem infoT : (Tryd.prog.info? 31).map (fun i => (i.zero, i.size, i.bytes)) = some (some zeroV, 6, 48) := by kernel_rfl
theorem infoT' : ∃ i, Tryd.prog.info? 31 = some i ∧ i.zero = some zeroV ∧ i.size = 6 ∧ i.bytes = 48 := by
  have h := infoT
  cases hq : Tryd.prog.info? 31 with
  | none => rw [hq] at h; simp at h
  | some i =>
    rw [hq] at h
    simp only [Option.map_some, Option.some.injEq, Prod.mk.injEq] at h
    exact ⟨i, rfl, h.1, h.2.1, h.2.2⟩
/-- A slice of trades of the call's own. -/
abbrev OwnTs (w : World) (base : Nat) (v : Value) (ts : List T) : Prop := OwnM w base 31 6 v ts.length (flatT ts)
theorem OwnTs.at {w : World} {base : Nat} {q : Option Addr} {n c : Nat} {ts : List T} (h : OwnTs w base (.slice q n c) ts) {k : Nat} (hk : k < ts.length) : ∃ g off, q = some ⟨g, off, none⟩ ∧ base ≤ g ∧ g < w.heap.size ∧ ∀ i v, (tV ts[k]!)[i]? = some v → w.cell? ⟨g, off + k * 6 + i, none⟩ = some v := by
  rcases h.2 with ⟨h1, h2⟩ | ⟨g, off, cap, cur, h1, h2, h3, h4⟩
  · omega
  · cases h1
    obtain ⟨hc, -, hb, hl⟩ := OwnM.cells h
    refine ⟨g, off, rfl, hb, hl, fun i v hv => ?_⟩
    have hi : i < 6 := (List.getElem?_eq_some_iff.1 hv).1
    have := hc (k * 6 + i) v (by rw [flatT_get ts k hk i hi]; exact hv)
    rw [← Nat.add_assoc] at this
    exact this

set_option maxRecDepth 100000 in
set_option maxHeartbeats 4000000 in
theorem trades_any (v : Value) (zs : List Ev) (w : World) (h : EL w v zs) (hn : zs.length ≤ 400) :
    Calls Tryd.prog 20 #[v] w fun e w' => ∃ v', e = .returned v' ∧ OwnTs w' w.heap.size v' (trs zs) ∧ Below w.heap.size w w' := by
  obtain ⟨i0, hi0, hz0, hz1, hz2⟩ := infoT'
  have HI := hidT hi0
  obtain ⟨q, c, rfl, hnn⟩ := h.form
  have HEL := hidT h
  have HAT : Hid (∀ k, k < zs.length → _) := fun k hk => h.at hk
  have HO0 : Hid (OwnTs w w.heap.size (.slice none 0 0) []) := ⟨rfl, .inl ⟨rfl, rfl⟩⟩
  obtain ⟨n, hN⟩ : ∃ n, zs.length = n := ⟨_, rfl⟩
  have HN := hidT hN
  rw [hN] at hn
  have HN4 := hidT hn
  simp only [hN]
  clear h hi0 hnn hn hN
  go_enter Tryd.func20, Tryd.ntmps20
  go_wp2_with fail
  go_loopg [3, 5, 8] n (fun gg s3 s5 s8 wr => ∃ (kk : Nat) (q' : Option Addr) (c' m : Nat), kk ≤ n ∧ n - kk ≤ gg ∧ s3 = .slice q' m c' ∧ s8 = .int .i64 kk ∧ Aside (m = (trs (zs.take kk)).length ∧ OwnTs wr w.heap.size (.slice q' m c') (trs (zs.take kk)) ∧ Below w.heap.size w wr))
  case atStart => exact ⟨0, none, 0, 0, Nat.zero_le _, by omega, rfl, rfl, rfl, HO0.out, Below.refl _ _⟩
  case round =>
    clear HO0
    obtain ⟨kk, q', c', m, hkk, hg, rfl, rfl, HA⟩ := hrel
    by_cases hlt : kk < n
    · have hltz : (kk : Int) < (n : Int) := by omega
      have hin1 : ¬ ((kk : Int) < 0) := by omega
      have hlz : kk < zs.length := by rw [HN.out]; exact hlt
      obtain ⟨g, off, rfl, hgl, hcc⟩ := HAT.out kk hlz
      obtain ⟨x, hx⟩ : ∃ x, zs[kk]! = x := ⟨_, rfl⟩
      obtain ⟨e1, e2, e3, e4, ⟨t1, t2, t3, t4, t5, t6⟩⟩ := x
      rw [hx] at hcc
      have HB := hidT HA.out.2.2
      have c0 := keeps HB.out (hcc 0 _ rfl)
      have c1 := keeps HB.out (hcc 1 _ rfl)
      have c2 := keeps HB.out (hcc 2 _ rfl)
      have c3 := keeps HB.out (hcc 3 _ rfl)
      have c4 := keeps HB.out (hcc 4 _ rfl)
      have c5 := keeps HB.out (hcc 5 _ rfl)
      have c6 := keeps HB.out (hcc 6 _ rfl)
      have c7 := keeps HB.out (hcc 7 _ rfl)
      have c8 := keeps HB.out (hcc 8 _ rfl)
      have c9 := keeps HB.out (hcc 9 _ rfl)
      simp only [Nat.add_zero] at c0
      have hgw : g < wr.heap.size := Nat.lt_of_lt_of_le hgl HB.out.size
      have HWK := hidT (wrapSuccT kk n hlt (by have := HN4.out; omega))
      have HKK : Hid (kk < n ∧ n - kk ≤ gk) := ⟨hlt, hg⟩
      have HY : Hid (e1 = 2 → trs (zs.take (kk + 1)) = trs (zs.take kk) ++ [⟨t1, t2, t3, t4, t5, t6⟩]) := fun h2 => by
        have := trs_yes hlz (by rw [hx]; exact h2)
        rw [hx] at this
        exact this
      have HX : Hid (¬ e1 = 2 → trs (zs.take (kk + 1)) = trs (zs.take kk)) := fun h2 => trs_no hlz (by rw [hx]; exact h2)
      have HTL : Hid ((trs (zs.take kk)).length ≤ kk) := by
        have := trs_len (zs.take kk)
        rw [List.length_take] at this
        show _ ≤ _
        omega
      clear hcc hx hkk hg hlt
      generalize trs (zs.take kk) = TS at *
      go_upto_region 5 with fail
      have HB1 : Hid (Below w.heap.size w (wr.alloc (.cells #[.int .i64 e1, .int .i64 e2, .int .i64 e3, .int .i64 e4, .int .i64 t1, .int .i64 t2, .int .i64 t3, .int .i64 t4, .int .i64 t5, .int .i64 t6] 33))) := HB.out.alloc HB.out.size _
      have HO1 : Hid (OwnTs (wr.alloc (.cells #[.int .i64 e1, .int .i64 e2, .int .i64 e3, .int .i64 e4, .int .i64 t1, .int .i64 t2, .int .i64 t3, .int .i64 t4, .int .i64 t5, .int .i64 t6] 33)) w.heap.size (.slice q' m c') TS) := OwnM.below HA.out.2.1 ((Below.refl _ _).alloc (Nat.le_refl _) _)
      have hR := heap_alloc_new wr (.cells #[.int .i64 e1, .int .i64 e2, .int .i64 e3, .int .i64 e4, .int .i64 t1, .int .i64 t2, .int .i64 t3, .int .i64 t4, .int .i64 t5, .int .i64 t6] 33)
      have HM := hidT HA.out.1
      clear HA HB c0 c1 c2 c3 c4 c5 c6 c7 c8 c9 hgw
      generalize wr.alloc (.cells #[.int .i64 e1, .int .i64 e2, .int .i64 e3, .int .i64 e4, .int .i64 t1, .int .i64 t2, .int .i64 t3, .int .i64 t4, .int .i64 t5, .int .i64 t6] 33) = V at *
      have d0 : V.cell? ⟨wr.heap.size, 0, none⟩ = some (.int .i64 e1) := by simp [World.cell?, hR]
      have d4 : V.cell? ⟨wr.heap.size, 4, none⟩ = some (.int .i64 t1) := by simp [World.cell?, hR]
      have d5 : V.cell? ⟨wr.heap.size, 5, none⟩ = some (.int .i64 t2) := by simp [World.cell?, hR]
      have d6 : V.cell? ⟨wr.heap.size, 6, none⟩ = some (.int .i64 t3) := by simp [World.cell?, hR]
      have d7 : V.cell? ⟨wr.heap.size, 7, none⟩ = some (.int .i64 t4) := by simp [World.cell?, hR]
      have d8 : V.cell? ⟨wr.heap.size, 8, none⟩ = some (.int .i64 t5) := by simp [World.cell?, hR]
      have d9 : V.cell? ⟨wr.heap.size, 9, none⟩ = some (.int .i64 t6) := by simp [World.cell?, hR]
      clear hR
      by_cases h2 : e1 = 2
      · have hy := HY.out h2
        subst h2
        have HY2 := hidT hy
        have HOW : Hid (OwnM (V.alloc (.cells #[.int .i64 t1, .int .i64 t2, .int .i64 t3, .int .i64 t4, .int .i64 t5, .int .i64 t6] 31)) w.heap.size 31 6 (.slice q' m c') m (flatT TS)) := by
          have := OwnM.below HO1.out ((Below.refl _ _).alloc (Nat.le_refl _) (.cells #[.int .i64 t1, .int .i64 t2, .int .i64 t3, .int .i64 t4, .int .i64 t5, .int .i64 t6] 31))
          rw [← HM.out] at this
          exact this
        have HNW : Hid (∀ j u, ([.int .i64 t1, .int .i64 t2, .int .i64 t3, .int .i64 t4, .int .i64 t5, .int .i64 t6] : List Value)[j]? = some u → (V.alloc (.cells #[.int .i64 t1, .int .i64 t2, .int .i64 t3, .int .i64 t4, .int .i64 t5, .int .i64 t6] 31)).cell? ((⟨V.heap.size, 0, none⟩ : Addr).add j) = some u) := by
          intro j u hu
          rw [Addr.add_lit, Nat.zero_add, World.cell?_alloc_at _ _ _ _ rfl]
          simpa using hu
        have HB2 : Hid (Below w.heap.size w (V.alloc (.cells #[.int .i64 t1, .int .i64 t2, .int .i64 t3, .int .i64 t4, .int .i64 t5, .int .i64 t6] 31))) := HB1.out.alloc HB1.out.size _
        clear hy HY HX HB1 HO1
        go_wp2_with (at_builtin; (refine wpList_append_mid _ rfl _ _ 53 rfl w.heap.size 31 i0 zeroV 6 48 Tryd.underlying53 HI.out hz0 hz1 hz2 rfl (.slice q' m c') _ _ rfl HOW.out ⟨V.heap.size, 0, none⟩ 1 1 [.int .i64 t1, .int .i64 t2, .int .i64 t3, .int .i64 t4, .int .i64 t5, .int .i64 t6] rfl rfl HNW.out (fun u hu => by simp only [List.mem_cons, List.not_mem_nil, or_false] at hu; rcases hu with rfl | rfl | rfl | rfl | rfl | rfl <;> rfl) ?c3 ?c4 ?c5 ?_))
        case c3 => have := HM.out; have := HTL.out; have := HKK.out; have := HN4.out; unfold maxLen; omega
        case c4 => have := HM.out; have := HTL.out; have := HKK.out; have := HN4.out; omega
        case c5 => have := HB2.out.size; simpa using this
        intro v' w' hO' hgr hat
        obtain ⟨q2, c2, hv'⟩ := OwnM.form hO'
        subst hv'
        have HNX : Hid (m + 1 = (trs (zs.take (kk + 1))).length ∧ OwnTs w' w.heap.size (.slice q2 (m + 1) c2) (trs (zs.take (kk + 1))) ∧ Below w.heap.size w w') := by
          have e1 : m + 1 = (trs (zs.take (kk + 1))).length := by rw [HY2.out, HM.out]; simp
          refine ⟨e1, ?_, HB2.out.grown hgr HB2.out.size (fun k hk => (OwnM.lt HOW.out k hk).1)⟩
          unfold OwnTs
          rw [← e1, HY2.out, flatT_append, flatT_one]
          exact hO'
        clear hO' hgr hat HOW HNW HB2 HY2
        go_wp2_with fail
        go_roundg (n - (kk + 1))
        case measure => have := HKK.out; omega
        case rel => exact ⟨kk + 1, q2, c2, m + 1, HKK.out.1, Nat.le_refl _, rfl, congrArg (Value.int .i64) HWK.out, HNX.out⟩
      · have h2b : (e1 == 2) = false := by simp [h2]
        have HX2 := hidT (HX.out h2)
        have HNX : Hid (m = (trs (zs.take (kk + 1))).length ∧ OwnTs V w.heap.size (.slice q' m c') (trs (zs.take (kk + 1))) ∧ Below w.heap.size w V) := by
          rw [HX2.out]
          exact ⟨HM.out, HO1.out, HB1.out⟩
        clear HX HY h2 HX2
        go_wp2_with fail
        go_roundg (n - (kk + 1))
        case measure => have := HKK.out; omega
        case rel => exact ⟨kk + 1, q', c', m, HKK.out.1, Nat.le_refl _, rfl, congrArg (Value.int .i64) HWK.out, HNX.out⟩
    · have hke : kk = n := by omega
      subst hke
      have hltz : ¬ (kk : Int) < (kk : Int) := by omega
      go_wp2_with fail
      go_ret
      have hA := HA.out
      rw [List.take_of_length_le (by rw [HN.out]; exact Nat.le_refl _)] at hA
      exact ⟨_, rfl, hA.2⟩

def sumQ : List T → Int
  | [] => 0
  | t :: r => t.qty + sumQ r
theorem sumQ_append (a b : List T) : sumQ (a ++ b) = sumQ a + sumQ b := by
  induction a with
  | nil => simp [sumQ]
  | cons t r ih => rw [List.cons_append, sumQ, sumQ, ih]; omega
theorem sumQ_take {ts : List T} {k : Nat} (h : k < ts.length) : sumQ (ts.take (k + 1)) = sumQ (ts.take k) + (ts[k]!).qty := by
  rw [take_succ_at h, sumQ_append]
  simp [sumQ]
theorem sumQ_bound (ts : List T) (h : ∀ t ∈ ts, tdB t = true) : 0 ≤ sumQ ts ∧ sumQ ts ≤ 10000 * ts.length := by
  induction ts with
  | nil => simp [sumQ]
  | cons t r ih =>
    have h1 := ih (fun x hx => h x (List.mem_cons_of_mem _ hx))
    have h2 := h t List.mem_cons_self
    simp [tdB] at h2
    rw [sumQ, List.length_cons]
    omega
def lastP (ts : List T) : Int := match ts.getLast? with
  | some t => t.price
  | none => 0
theorem lastP_take {ts : List T} {k : Nat} (h : k < ts.length) : lastP (ts.take (k + 1)) = (ts[k]!).price := by
  rw [take_succ_at h]
  unfold lastP
  rw [List.getLast?_concat]
theorem tchk_zero {zs : List Ev} (h : tchk zs = 0) : zs.length ≤ 400 ∧ ∀ e ∈ zs, evB e = true := by
  unfold tchk at h
  split at h
  · cases h
  · refine ⟨by omega, fun e he => ?_⟩
    cases hq : zs.any badE
    · rw [List.any_eq_false] at hq
      have := hq e he
      unfold badE at this
      simpa using this
    · rw [hq] at h; cases h
theorem trs_td {zs : List Ev} (h : ∀ e ∈ zs, evB e = true) : ∀ t ∈ trs zs, tdB t = true := by
  intro t ht
  unfold trs at ht
  obtain ⟨e, he, h2⟩ := List.mem_filterMap.1 ht
  split at h2
  · rename_i hw
    cases h2
    have := h e he
    unfold evB at this
    rwa [if_pos hw] at this
  · cases h2
def volE (zs : List Ev) : Int := if tchk zs = 0 then sumQ (trs zs) else 0
def cntE (zs : List Ev) : Int := if tchk zs = 0 then ((trs zs).length : Int) else 0
def lasE (zs : List Ev) : Int := if tchk zs = 0 then lastP (trs zs) else 0

set_option maxRecDepth 100000 in
set_option maxHeartbeats 4000000 in
theorem volume_any (v : Value) (zs : List Ev) (w : World) (h : EL w v zs) :
    Calls Tryd.prog 10 #[v] w fun e w' => e = .returned (.tuple #[.int .i64 (volE zs), .int .i64 (cntE zs), errV (tchk zs)]) ∧ Below w.heap.size w w' := by
  have HCK := hidT (check_any v zs w h)
  by_cases hz : tchk zs = 0
  rotate_left
  · have e1 : volE zs = 0 := if_neg hz
    have e2 : cntE zs = 0 := if_neg hz
    rw [e1, e2, errV_of hz]
    rw [errV_of hz] at HCK
    clear e1 e2
    generalize tchk zs = k at *
    go_enter Tryd.func10, Tryd.ntmps10
    go_wp2_with fail
    refine HCK.out.mono ?_
    rintro e w1 ⟨rfl, hb⟩
    go_wp2_with fail
    go_ret3
    exact ⟨rfl, hb⟩
  obtain ⟨h4, hev⟩ := tchk_zero hz
  have hsb := sumQ_bound (trs zs) (trs_td hev)
  have htl : (trs zs).length ≤ 400 := Nat.le_trans (trs_len zs) h4
  have HTR : Hid (∀ W, Below w.heap.size w W → _) := fun W hW => trades_any v zs W (h.below hW) h4
  have e1 : volE zs = sumQ (trs zs) := if_pos hz
  have e2 : cntE zs = ((trs zs).length : Int) := if_pos hz
  rw [e1, e2, hz, errV_zero]
  rw [hz, errV_zero] at HCK
  have HSB : Hid (∀ k, k ≤ (trs zs).length → 0 ≤ sumQ ((trs zs).take k) ∧ sumQ ((trs zs).take k) ≤ 4000000) := fun k hk => by
    have h1 := sumQ_bound ((trs zs).take k) (fun t ht => trs_td hev t (List.mem_of_mem_take ht))
    rw [List.length_take] at h1
    refine ⟨h1.1, ?_⟩
    have := h1.2
    omega
  have HTD : Hid (∀ k, k < (trs zs).length → 1 ≤ ((trs zs)[k]!).qty ∧ ((trs zs)[k]!).qty ≤ 10000) := fun k hk => by
    have := trs_td hev ((trs zs)[k]!) (by rw [getE _ _ hk]; exact List.getElem_mem hk)
    generalize (trs zs)[k]! = t at *
    simp [tdB] at this
    omega
  clear e1 e2 hz hev hsb h h4
  generalize trs zs = TS at *
  go_enter Tryd.func10, Tryd.ntmps10
  go_wp2_with fail
  refine HCK.out.mono ?_
  rintro e w1 ⟨rfl, hb⟩
  have HT1 := hidT (HTR.out w1 hb)
  have HB1 := hidT hb
  clear hb HCK HTR
  go_wp2_with fail
  refine HT1.out.mono ?_
  rintro e w2 ⟨tv, rfl, hO, hb2⟩
  obtain ⟨q, c, rfl⟩ := OwnM.form hO
  have HO := hidT hO
  have HB2 := hidT (HB1.out.trans (hb2.mono HB1.out.size))
  obtain ⟨n, hN⟩ : ∃ n, TS.length = n := ⟨_, rfl⟩
  have HN := hidT hN
  simp only [hN]
  rw [hN] at htl
  have HTL := hidT htl
  clear hO hb2 HT1 HB1 hN htl
  go_wp2_with fail
  go_loopg [7, 9, 19] n (fun gg s7 s9 s19 wr => ∃ (kk : Nat), kk ≤ n ∧ n - kk ≤ gg ∧ s7 = .int .i64 (sumQ (TS.take kk)) ∧ s19 = .int .i64 kk ∧ Aside (Below w2.heap.size w2 wr))
  case atStart => exact ⟨0, Nat.zero_le _, by omega, rfl, rfl, Below.refl _ _⟩
  case round =>
    obtain ⟨kk, hkk, hg, rfl, rfl, HA⟩ := hrel
    by_cases hlt : kk < n
    · have hltz : (kk : Int) < (n : Int) := by omega
      have hin1 : ¬ ((kk : Int) < 0) := by omega
      have hlz : kk < TS.length := by rw [HN.out]; exact hlt
      obtain ⟨g, off, rfl, -, hgl, hcc⟩ := HO.out.at hlz
      obtain ⟨x, hx⟩ : ∃ x, TS[kk]! = x := ⟨_, rfl⟩
      have hs1 := HSB.out kk (by omega)
      have hs2 := HTD.out kk hlz
      have hs3 := sumQ_take hlz
      rw [hx] at hcc hs2 hs3
      obtain ⟨t1, t2, t3, t4, t5, t6⟩ := x
      simp only at hs2 hs3
      have c0 := keeps HA.out (hcc 0 _ rfl)
      have c1 := keeps HA.out (hcc 1 _ rfl)
      have c2 := keeps HA.out (hcc 2 _ rfl)
      have c3 := keeps HA.out (hcc 3 _ rfl)
      have c4 := keeps HA.out (hcc 4 _ rfl)
      have c5 := keeps HA.out (hcc 5 _ rfl)
      simp only [Nat.add_zero] at c0
      have HWK := hidT (wrapSuccT kk n hlt (by have := HTL.out; omega))
      have HKK : Hid (kk < n ∧ n - kk ≤ gk) := ⟨hlt, hg⟩
      have HS3 := hidT hs3
      generalize sumQ (TS.take kk) = S at *
      have HWS : Hid (wrap64 (S + t6) = S + t6) := by show _ = _; unfold wrap64; omega
      have HBA := hidT (HA.out.alloc HA.out.size (.cells #[.int .i64 t1, .int .i64 t2, .int .i64 t3, .int .i64 t4, .int .i64 t5, .int .i64 t6] 31))
      clear hcc hx hkk hg hlt hs1 hs2 hs3
      go_wp2_with fail
      go_roundg (n - (kk + 1))
      case measure => have := HKK.out; omega
      case rel => exact ⟨kk + 1, HKK.out.1, Nat.le_refl _, congrArg (Value.int .i64) (HWS.out.trans HS3.out.symm), congrArg (Value.int .i64) HWK.out, HBA.out⟩
    · have hke : kk = n := by omega
      subst hke
      have hltz : ¬ (kk : Int) < (kk : Int) := by omega
      have hS : TS.take kk = TS := List.take_of_length_le (by rw [HN.out]; exact Nat.le_refl _)
      rw [hS]
      go_wp2_with fail
      go_ret3
      exact ⟨by rw [HN.out]; rfl, HB2.out.trans (HA.out.mono HB2.out.size)⟩

set_option maxRecDepth 100000 in
set_option maxHeartbeats 4000000 in
theorem last_any (v : Value) (zs : List Ev) (w : World) (h : EL w v zs) :
    Calls Tryd.prog 11 #[v] w fun e w' => e = .returned (.tuple #[.int .i64 (lasE zs), errV (tchk zs)]) ∧ Below w.heap.size w w' := by
  have HCK := hidT (check_any v zs w h)
  by_cases hz : tchk zs = 0
  rotate_left
  · have e1 : lasE zs = 0 := if_neg hz
    rw [e1, errV_of hz]
    rw [errV_of hz] at HCK
    clear e1
    generalize tchk zs = k at *
    go_enter Tryd.func11, Tryd.ntmps11
    go_wp2_with fail
    refine HCK.out.mono ?_
    rintro e w1 ⟨rfl, hb⟩
    go_wp2_with fail
    go_ret2
    exact ⟨rfl, hb⟩
  obtain ⟨h4, hev⟩ := tchk_zero hz
  have htl : (trs zs).length ≤ 400 := Nat.le_trans (trs_len zs) h4
  have HTR : Hid (∀ W, Below w.heap.size w W → _) := fun W hW => trades_any v zs W (h.below hW) h4
  have e1 : lasE zs = lastP (trs zs) := if_pos hz
  rw [e1, hz, errV_zero]
  rw [hz, errV_zero] at HCK
  clear e1 hz hev h h4
  generalize trs zs = TS at *
  go_enter Tryd.func11, Tryd.ntmps11
  go_wp2_with fail
  refine HCK.out.mono ?_
  rintro e w1 ⟨rfl, hb⟩
  have HT1 := hidT (HTR.out w1 hb)
  have HB1 := hidT hb
  clear hb HCK HTR
  go_wp2_with fail
  refine HT1.out.mono ?_
  rintro e w2 ⟨tv, rfl, hO, hb2⟩
  obtain ⟨q, c, rfl⟩ := OwnM.form hO
  have HO := hidT hO
  have HB2 := hidT (HB1.out.trans (hb2.mono HB1.out.size))
  obtain ⟨n, hN⟩ : ∃ n, TS.length = n := ⟨_, rfl⟩
  have HN := hidT hN
  simp only [hN]
  rw [hN] at htl
  have HTL := hidT htl
  clear hO hb2 HT1 HB1 hN htl
  go_wp2_with fail
  go_loopg [5, 7, 16] n (fun gg s5 s7 s16 wr => ∃ (kk : Nat), kk ≤ n ∧ n - kk ≤ gg ∧ s5 = .int .i64 (lastP (TS.take kk)) ∧ s16 = .int .i64 kk ∧ Aside (Below w2.heap.size w2 wr))
  case atStart => exact ⟨0, Nat.zero_le _, by omega, rfl, rfl, Below.refl _ _⟩
  case round =>
    obtain ⟨kk, hkk, hg, rfl, rfl, HA⟩ := hrel
    by_cases hlt : kk < n
    · have hltz : (kk : Int) < (n : Int) := by omega
      have hin1 : ¬ ((kk : Int) < 0) := by omega
      have hlz : kk < TS.length := by rw [HN.out]; exact hlt
      obtain ⟨g, off, rfl, -, hgl, hcc⟩ := HO.out.at hlz
      obtain ⟨x, hx⟩ : ∃ x, TS[kk]! = x := ⟨_, rfl⟩
      have hs3 := lastP_take hlz
      rw [hx] at hcc hs3
      obtain ⟨t1, t2, t3, t4, t5, t6⟩ := x
      simp only at hs3
      have c0 := keeps HA.out (hcc 0 _ rfl)
      have c1 := keeps HA.out (hcc 1 _ rfl)
      have c2 := keeps HA.out (hcc 2 _ rfl)
      have c3 := keeps HA.out (hcc 3 _ rfl)
      have c4 := keeps HA.out (hcc 4 _ rfl)
      have c5 := keeps HA.out (hcc 5 _ rfl)
      simp only [Nat.add_zero] at c0
      have HWK := hidT (wrapSuccT kk n hlt (by have := HTL.out; omega))
      have HKK : Hid (kk < n ∧ n - kk ≤ gk) := ⟨hlt, hg⟩
      have HS3 := hidT hs3
      generalize lastP (TS.take kk) = S at *
      have HBA := hidT (HA.out.alloc HA.out.size (.cells #[.int .i64 t1, .int .i64 t2, .int .i64 t3, .int .i64 t4, .int .i64 t5, .int .i64 t6] 31))
      clear hcc hx hkk hg hlt hs3
      go_wp2_with fail
      go_roundg (n - (kk + 1))
      case measure => have := HKK.out; omega
      case rel => exact ⟨kk + 1, HKK.out.1, Nat.le_refl _, congrArg (Value.int .i64) HS3.out.symm, congrArg (Value.int .i64) HWK.out, HBA.out⟩
    · have hke : kk = n := by omega
      subst hke
      have hltz : ¬ (kk : Int) < (kk : Int) := by omega
      have hS : TS.take kk = TS := List.take_of_length_le (by rw [HN.out]; exact Nat.le_refl _)
      rw [hS]
      go_wp2_with fail
      go_ret2
      exact ⟨rfl, HB2.out.trans (HA.out.mono HB2.out.size)⟩
end Go.Proofs.YtgpbpaimfhlnhaaDoor.tap
