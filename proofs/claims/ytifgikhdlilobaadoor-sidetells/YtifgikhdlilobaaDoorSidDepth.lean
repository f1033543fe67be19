/- Contracts over this seat's translation: side.shown. Contracts over this seat's translation: side.Depth. -/
import Derived.Test.YtifgikhdlilobaaDoorSidFind2
import Derived.Test.YtifgikhdlilobaaDoorSidCat
import Derived.Deep.AppendLies
namespace Go.Proofs.YtifgikhdlilobaaDoor.sid
open Go.RowKit Go.Proofs.YtifgikhdlilobaaDoor.spn Go.Proofs.YtifgikhdlilobaaDoor.que

/-- All that is shown of a level. -/
def shw : List R → Int
  | [] => 0
  | r :: t => r.qty + shw t
theorem shw_append (a b : List R) : shw (a ++ b) = shw a + shw b := by
  induction a with
  | nil => simp [shw]
  | cons x t ih => simp only [List.cons_append, shw, ih]; omega
theorem shw_take (zs : List R) (k : Nat) (hk : k < zs.length) : shw (zs.take (k + 1)) = shw (zs.take k) + zs[k]!.qty := by
  rw [take_at hk, shw_append]; simp only [shw]; omega
theorem shw_le (zs : List R) (h : ∀ r ∈ zs, rchk r = 0) : 0 ≤ shw zs ∧ shw zs ≤ 10000 * (zs.length : Int) := by
  induction zs with
  | nil => simp [shw]
  | cons x t ih =>
    have h1 := (rchk_zero (h x (by simp))).1
    have h2 := ih (fun l hl => h l (by simp [hl]))
    simp only [shw, List.length_cons]
    omega

set_option maxRecDepth 100000 in
set_option maxHeartbeats 1000000 in
theorem shown_any (p : Int) (v : Value) (zs : List R) (w : World) (h : SLe w v zs) (hq : qchk zs = 0) :
    Calls Tryd.prog 25 #[.agg #[.int .i64 p, v]] w fun e w' => e = .returned (.int .i64 (shw zs)) ∧ Below w.heap.size w w' := by
  obtain ⟨q, c, hv⟩ := sl_form h
  subst hv
  obtain ⟨h60, hG⟩ := (qchk_zero zs).1 hq
  have HG : Hid (Go.Proofs.YtifgikhdlilobaaDoor.que.Good zs) := hG
  have HS : Hid (SLe w (.slice q zs.length c) zs) := h
  generalize hT : shw zs = T
  have HT : Hid (shw zs = T) := hT
  clear hT h hG hq
  generalize hn : zs.length = n at *
  have HN : Hid (zs.length = n) := hn
  clear hn
  go_enter Tryd.func25, Tryd.ntmps25
  go_wp2_with fail
  go_loopg [3, 5, 9] n (fun gg s3 _ s9 wr => ∃ kk : Nat, kk ≤ n ∧ n - kk ≤ gg ∧ s9 = .int .i64 kk ∧ s3 = .int .i64 (shw (zs.take kk)) ∧ Aside (Below w.heap.size w wr))
  case atStart => exact ⟨0, Nat.zero_le _, by omega, rfl, rfl, (Below.refl _ _).alloc (Nat.le_refl _) _⟩
  case round =>
    obtain ⟨kk, hkk, hg, rfl, rfl, BW⟩ := hrel
    have hA : Hid (0 ≤ shw (zs.take kk) ∧ shw (zs.take kk) ≤ 10000 * (kk : Int)) := by
      have := shw_le (zs.take kk) (fun r hr => HG.out.1 r (List.mem_of_mem_take hr))
      rw [List.length_take, HN.out, Nat.min_eq_left hkk] at this
      exact this
    by_cases hlt : kk < n
    · have hltz : (kk : Int) < (n : Int) := by omega
      have hlz : kk < zs.length := by rw [HN.out]; exact hlt
      obtain ⟨b, o, rfl, -, hb, hl⟩ := sl_some HS.out hlz
      have LW := hl.below hb BW.out
      obtain ⟨r, hr⟩ : ∃ r, zs[kk]! = r := ⟨_, rfl⟩
      obtain ⟨r1, r2, r3, r4, r5⟩ := r
      obtain ⟨c0, c1, c2, c3, c4⟩ := lies_at LW hlz hr
      have hq := rchk_zero (HG.out.1 zs[kk]! (by rw [getE _ _ hlz]; exact List.getElem_mem hlz))
      rw [hr] at hq
      obtain ⟨⟨q1, q2⟩, -⟩ := hq
      simp only [] at q1 q2
      have hTT : Hid (shw (zs.take (kk + 1)) = shw (zs.take kk) + r3) := by
        have := shw_take zs kk hlz
        rw [hr] at this
        exact this
      obtain ⟨t1, t2⟩ := hA.out
      clear hr LW hl hA
      have hin1 : ¬ ((kk : Int) < 0) := by omega
      have e2 : wrap64 (shw (zs.take kk) + r3) = shw (zs.take kk) + r3 := by unfold wrap64; omega
      go_wp2_with fail
      go_roundg (n - (kk + 1))
      case measure => omega
      case rel => exact ⟨kk + 1, by omega, by omega, by go_num, by rw [hTT.out], BW.out.alloc BW.out.size _⟩
    · have hltz : ¬ (kk : Int) < (n : Int) := by omega
      have hk : kk = n := by omega
      subst hk
      have hT2 : shw (zs.take kk) = T := by rw [← HT.out, List.take_of_length_le (by rw [HN.out]; exact Nat.le_refl _)]
      rw [hT2]
      go_wp2_with fail
      go_ret
      exact ⟨rfl, BW.out⟩
end Go.Proofs.YtifgikhdlilobaaDoor.sid
namespace Go.Proofs.YtifgikhdlilobaaDoor.sid
open Go.RowKit Go.Proofs.YtifgikhdlilobaaDoor.spn Go.Proofs.YtifgikhdlilobaaDoor.que

/-- The cells of some levels' prices and what they show. -/
def dV (x : Int × Int) : List Value := [.int .i64 x.1, .int .i64 x.2]
def dflat (ds : List (Int × Int)) : List Value := ds.flatMap dV
theorem dflat_snoc (ds : List (Int × Int)) (x : Int × Int) : dflat (ds ++ [x]) = dflat ds ++ dV x := by unfold dflat; rw [List.flatMap_append]; simp
def OwnD (w : World) (base : Nat) (v : Value) (ds : List (Int × Int)) : Prop := OwnM w base 36 2 v ds.length (dflat ds)
/-- What is told of levels. -/
def tells (ls : List L) : List (Int × Int) := ls.map (fun l => (l.price, shw l.rests))
theorem tells_take (ls : List L) (k : Nat) (hk : k < ls.length) : tells (ls.take (k + 1)) = tells (ls.take k) ++ [(ls[k]!.price, shw ls[k]!.rests)] := by
  rw [ltake_at hk]; simp [tells]
theorem infoD : (Tryd.prog.info? 36).map (fun i => (i.zero, i.size, i.bytes)) = some (some (.agg #[.int .i64 0, .int .i64 0]), 2, 16) := by kernel_rfl
theorem infoD' : ∃ i, Tryd.prog.info? 36 = some i ∧ i.zero = some (.agg #[.int .i64 0, .int .i64 0]) ∧ i.size = 2 ∧ i.bytes = 16 := by
  have h := infoD
  cases hq : Tryd.prog.info? 36 with
  | none => rw [hq] at h; simp at h
  | some i =>
    rw [hq] at h
    simp only [Option.map_some, Option.some.injEq, Prod.mk.injEq] at h
    exact ⟨i, rfl, h.1, h.2.1, h.2.2⟩

set_option maxRecDepth 100000 in
set_option maxHeartbeats 1000000 in
theorem depth_some (s : Int) (b o c : Nat) (ls : List L) (k : Int) (w : World) (hb : b < w.heap.size) (hc : ls.length ≤ c) (hm : c ≤ 9223372036854775807) (hl : LL w b o ls) (h0 : schk s ls = 0) (hk : ¬ k < 0) :
    Calls Tryd.prog 8 #[.int .i64 s, .slice (some ⟨b, o, none⟩) ls.length c, .int .i64 k] w fun e w' => ∃ v, e = .returned (.tuple #[v, .nilIface]) ∧ OwnD w' w.heap.size v (tells (ls.take k.toNat)) ∧ Below w.heap.size w w' := by
  have hcon := scheckS_any s _ ls w (.inr ⟨b, o, c, rfl, hc, hm, hb, hl⟩)
  rw [h0, errV_zero] at hcon
  obtain ⟨h1, h2, -, -⟩ := schk_zero h0
  have HE : Hid (∀ l ∈ ls, lchk l = 0) := sgo_each h2
  have HN10 : Hid (ls.length ≤ 10000) := sgo_len h1 h2
  have HL : Hid (LL w b o ls) := hl
  obtain ⟨m, hmm⟩ : ∃ m, m = min k.toNat ls.length := ⟨_, rfl⟩
  have HT : Hid (ls.take k.toNat = ls.take m) := by
    show _ = _
    rw [hmm]
    by_cases hx : k.toNat ≤ ls.length
    · rw [Nat.min_eq_left hx]
    · rw [Nat.min_eq_right (by omega), List.take_of_length_le (by omega), List.take_length]
  have hmin : min k (ls.length : Int) = (m : Int) := by omega
  have hmn : m ≤ ls.length := by omega
  rw [HT.out]
  clear hl h1 h2 h0 HT hmm
  obtain ⟨i0, hi, hz0, hz1, hz2⟩ := infoD'
  have HI : Hid (Tryd.prog.info? 36 = some i0) := hi
  clear hi
  generalize hn : ls.length = n at *
  have HN : Hid (ls.length = n) := hn
  have hmc : m ≤ c := by omega
  clear hn
  go_enter Tryd.func8, Tryd.ntmps8
  go_wp2_with fail
  refine hcon.mono ?_
  rintro e w1 ⟨rfl, h1⟩
  have HB1 : Hid (Below w.heap.size w w1) := h1
  clear hcon h1
  go_wp2_with fail
  go_loopg [9, 11, 28] m (fun gg s9 _ s28 wr => ∃ kk : Nat, kk ≤ m ∧ m - kk ≤ gg ∧ s28 = .int .i64 kk ∧ Aside (OwnD wr w.heap.size s9 (tells (ls.take kk))) ∧ Aside (Below w.heap.size w wr))
  case atStart => exact ⟨0, Nat.zero_le _, by omega, rfl, ⟨rfl, .inl ⟨rfl, rfl⟩⟩, HB1.out⟩
  case round =>
    obtain ⟨kk, hkk, hg, rfl, OW, BW⟩ := hrel
    by_cases hlt : kk < m
    · have hltz : (kk : Int) < (m : Int) := by omega
      have hlz : kk < ls.length := by rw [HN.out]; omega
      obtain ⟨r, hr⟩ : ∃ r, ls[kk]! = r := ⟨_, rfl⟩
      obtain ⟨p, zs⟩ := r
      obtain ⟨q, cc, a0, a1, hs⟩ := HL.out.at hlz hr
      have c0 := keeps BW.out a0
      have c1 := keeps BW.out a1
      have hqz := (lchk_zero (HE.out ls[kk]! (by rw [getE _ _ hlz]; exact List.getElem_mem hlz))).2.2
      rw [hr] at hqz
      have hsh := fun W (hW : Below w.heap.size w W) => shown_any p _ zs W (hs.below hW) hqz
      have HTK : Hid (tells (ls.take (kk + 1)) = tells (ls.take kk) ++ [(p, shw zs)]) := by
        have := tells_take ls kk hlz
        rw [hr] at this
        exact this
      have hin1 : ¬ ((kk : Int) < 0) := by omega
      have hle : (tells (ls.take kk)).length ≤ 10000 := by
        have := HN10.out
        unfold tells
        rw [List.length_map, List.length_take]
        omega
      clear hr hs hqz a0 a1
      generalize shw zs = sw at *
      generalize zs.length = zn at *
      generalize tells (ls.take kk) = ds at *
      have hR := heap_alloc_new wr (.cells #[.int .i64 p, .slice q zn cc] 32)
      have HV : Hid (Below w.heap.size w (wr.alloc (.cells #[.int .i64 p, .slice q zn cc] 32))) := BW.out.alloc BW.out.size _
      have OV : Hid (OwnD (wr.alloc (.cells #[.int .i64 p, .slice q zn cc] 32)) w.heap.size u9 ds) := OwnM.below OW.out ((Below.refl _ _).alloc (Nat.le_refl _) _)
      have HLT : Hid (∀ k, u9.ownBlock = some k → w.heap.size ≤ k ∧ k < wr.heap.size) := OwnM.lt OW.out
      have hgv : wr.heap.size < (wr.alloc (.cells #[.int .i64 p, .slice q zn cc] 32)).heap.size := by simp
      go_upto_region 10 with fail
      generalize wr.alloc (.cells #[.int .i64 p, .slice q zn cc] 32) = V at *
      generalize wr.heap.size = G at *
      have d0 : V.cell? ⟨G, 0, none⟩ = some (.int .i64 p) := by simp [World.cell?, hR]
      have d1 : V.cell? ⟨G, 1, none⟩ = some (.slice q zn cc) := by simp [World.cell?, hR]
      have SO : Hid (∀ W, Below V.heap.size V W → (Below w.heap.size w W ∧ W.cell? ⟨G, 0, none⟩ = some (.int .i64 p) ∧ W.cell? ⟨G, 1, none⟩ = some (.slice q zn cc))) := fun W hW => ⟨HV.out.trans (hW.mono HV.out.size), keeps hW d0, keeps hW d1⟩
      have SG : Hid (∀ W W', Below V.heap.size V W → W.grownBy W' u9.ownBlock → (Below w.heap.size w W' ∧ W'.cell? ⟨G, 0, none⟩ = some (.int .i64 p) ∧ W'.cell? ⟨G, 1, none⟩ = some (.slice q zn cc))) := fun W W' hW hg => by
        have hne : some G ≠ u9.ownBlock := fun e => by have := (HLT.out G e.symm).2; omega
        have hGW : G < W.heap.size := Nat.lt_of_lt_of_le hgv hW.size
        refine ⟨(HV.out.trans (hW.mono HV.out.size)).grown hg (HV.out.trans (hW.mono HV.out.size)).size (fun k hk => (HLT.out k hk).1), ?_, ?_⟩
        · rw [hg.cell_far ⟨G, 0, none⟩ hGW hne]; exact keeps hW d0
        · rw [hg.cell_far ⟨G, 1, none⟩ hGW hne]; exact keeps hW d1
      have HSH : Hid (∀ W, Below V.heap.size V W → Calls Tryd.prog 25 #[.agg #[.int .i64 p, .slice q zn cc]] W fun e w' => e = .returned (.int .i64 sw) ∧ Below V.heap.size V w') := fun W hV => (hsh W (HV.out.trans (hV.mono HV.out.size))).mono fun e w' h => ⟨h.1, hV.trans (h.2.mono hV.size)⟩
      have hszV : w.heap.size ≤ V.heap.size := HV.out.size
      clear hsh hR BW OW hgv
      go_region_held3 (fun W => Below w.heap.size w W ∧ W.cell? ⟨G, 0, none⟩ = some (.int .i64 p) ∧ W.cell? ⟨G, 1, none⟩ = some (.slice q zn cc))
        (first | with_reducible assumption | (refine SO.out _ ?_; (repeat' (first | with_reducible assumption | with_reducible refine bal ?_ _ | with_reducible refine Below.setCell ?_ ?_ _ | with_reducible refine Below.drew ?_ | with_reducible exact Below.refl _ _ | with_reducible exact Nat.le_refl _ | with_reducible exact Below.size (by with_reducible assumption) | with_reducible refine Nat.le_succ_of_le ?_))))
        (first | (go_at_call 25; refine (HSH.out _ ?_).mono ?_; (repeat' (first | with_reducible assumption | with_reducible refine bal ?_ _ | with_reducible refine Below.setCell ?_ ?_ _ | with_reducible refine Below.drew ?_ | with_reducible exact Below.refl _ _ | with_reducible exact Nat.le_refl _ | with_reducible exact Below.size (by with_reducible assumption) | with_reducible refine Nat.le_succ_of_le ?_)); rintro x W ⟨rfl, hbn⟩) | (refine step_append_mid _ rfl _ _ 35 rfl w.heap.size 36 i0 (.agg #[.int .i64 0, .int .i64 0]) 2 16 Tryd.underlying35 HI.out hz0 hz1 hz2 rfl u9 ds.length (dflat ds) rfl (OwnM.below OV.out (by (repeat' (first | with_reducible assumption | with_reducible refine bal ?_ _ | with_reducible refine Below.setCell ?_ ?_ _ | with_reducible refine Below.drew ?_ | with_reducible exact Below.refl _ _ | with_reducible exact Nat.le_refl _ | with_reducible exact Below.size (by with_reducible assumption) | with_reducible refine Nat.le_succ_of_le ?_)))) _ 1 1 [.int .i64 p, .int .i64 sw] rfl rfl (World.news_of_block (cs := #[.int .i64 p, .int .i64 sw]) (heap_alloc_new _ _)) (by simp [Value.oneCell']) (by unfold maxLen; omega) (by omega) (Nat.le_trans hszV (Below.size (w := V) (B := V.heap.size) (by (repeat' (first | with_reducible assumption | with_reducible refine bal ?_ _ | with_reducible refine Below.setCell ?_ ?_ _ | with_reducible refine Below.drew ?_ | with_reducible exact Below.refl _ _ | with_reducible exact Nat.le_refl _ | with_reducible exact Below.size (by with_reducible assumption) | with_reducible refine Nat.le_succ_of_le ?_))))) ?_; intro v' w' hO' hgr hat; have hS1 := SG.out _ _ (by (repeat' (first | with_reducible assumption | with_reducible refine bal ?_ _ | with_reducible refine Below.setCell ?_ ?_ _ | with_reducible refine Below.drew ?_ | with_reducible exact Below.refl _ _ | with_reducible exact Nat.le_refl _ | with_reducible exact Below.size (by with_reducible assumption) | with_reducible refine Nat.le_succ_of_le ?_))) hgr))
      have H1 : Hid (OwnD w' w.heap.size v' (tells (ls.take (kk + 1)))) := by
        rw [HTK.out]
        unfold OwnD
        rw [dflat_snoc, List.length_append]
        exact hO'
      have H2 : Hid (Below w.heap.size w w') := hS1.1
      clear hO' hgr hat hS1 SO SG HSH OV
      go_wp2_with fail
      go_roundg (m - (kk + 1))
      case measure => omega
      case rel => exact ⟨kk + 1, by omega, by omega, by go_num, H1.out, H2.out⟩
    · have hltz : ¬ (kk : Int) < (m : Int) := by omega
      have hkm : kk = m := by omega
      subst hkm
      go_wp2_with fail
      go_ret2
      exact ⟨_, rfl, OW.out, BW.out⟩
theorem ownD_nil (w : World) (base : Nat) : OwnD w base (.slice none 0 0) [] := ⟨rfl, .inl ⟨rfl, rfl⟩⟩
def depthE (s : Int) (ls : List L) (k : Int) : Int := if schk s ls = 0 then (if k < 0 then 1 else 0) else schk s ls
def depthR (s : Int) (ls : List L) (k : Int) : List (Int × Int) := if depthE s ls k = 0 then tells (ls.take k.toNat) else []
theorem depth_nil (s : Int) (k : Int) (w : World) (h0 : schk s [] = 0) (hk : ¬ k < 0) :
    Calls Tryd.prog 8 #[.int .i64 s, .slice none 0 0, .int .i64 k] w fun e w' => ∃ v, e = .returned (.tuple #[v, .nilIface]) ∧ OwnD w' w.heap.size v [] ∧ Below w.heap.size w w' := by
  have hcon := scheckS_any s _ [] w (.inl ⟨rfl, rfl⟩)
  rw [h0, errV_zero] at hcon
  have hmin : min k (0 : Int) = 0 := by omega
  clear h0
  go_enter Tryd.func8, Tryd.ntmps8
  go_wp2_with fail
  refine hcon.mono ?_
  rintro e w1 ⟨rfl, h1⟩
  have HB1 : Hid (Below w.heap.size w w1) := h1
  clear hcon h1
  go_wp2_with fail
  go_loopg [9, 11, 28] 0 (fun _ s9 _ s28 wr => s28 = .int .i64 0 ∧ s9 = .slice none 0 0 ∧ Aside (Below w.heap.size w wr))
  case atStart => exact ⟨rfl, rfl, HB1.out⟩
  case round =>
    obtain ⟨rfl, rfl, BW⟩ := hrel
    go_wp2_with fail
    go_ret2
    exact ⟨_, rfl, ownD_nil _ _, BW.out⟩
theorem depth_neg (s : Int) (v : Value) (ls : List L) (k : Int) (w : World) (h : LS w v ls) (h0 : schk s ls = 0) (hk : k < 0) :
    Calls Tryd.prog 8 #[.int .i64 s, v, .int .i64 k] w fun e w' => e = .returned (.tuple #[.slice none 0 0, .iface 58 (.int .i64 1)]) ∧ Below w.heap.size w w' := by
  have hcon := scheckS_any s _ ls w h
  rw [h0, errV_zero] at hcon
  clear h h0
  go_enter Tryd.func8, Tryd.ntmps8
  go_wp2_with fail
  refine hcon.mono ?_
  rintro e w1 ⟨rfl, h1⟩
  clear hcon
  go_wp2_with fail
  go_ret2
  exact ⟨rfl, h1⟩
theorem depth_bad (s : Int) (v : Value) (ls : List L) (k : Int) (w : World) (h : LS w v ls) (h0 : ¬ schk s ls = 0) :
    Calls Tryd.prog 8 #[.int .i64 s, v, .int .i64 k] w fun e w' => e = .returned (.tuple #[.slice none 0 0, errV (schk s ls)]) ∧ Below w.heap.size w w' := by
  have hcon := scheckS_any s _ ls w h
  rw [errV_of h0] at hcon ⊢
  generalize schk s ls = j at *
  clear h h0
  go_enter Tryd.func8, Tryd.ntmps8
  go_wp2_with fail
  refine hcon.mono ?_
  rintro e w1 ⟨rfl, h1⟩
  clear hcon
  go_wp2_with fail
  go_ret2
  exact ⟨rfl, h1⟩
/-- Depth, at every side and number. -/
theorem depth_any (s : Int) (v : Value) (ls : List L) (k : Int) (w : World) (h : LS w v ls) :
    Calls Tryd.prog 8 #[.int .i64 s, v, .int .i64 k] w fun e w' => ∃ u, e = .returned (.tuple #[u, errV (depthE s ls k)]) ∧ OwnD w' w.heap.size u (depthR s ls k) ∧ Below w.heap.size w w' := by
  by_cases h0 : schk s ls = 0
  · by_cases hk : k < 0
    · have e1 : depthE s ls k = 1 := by unfold depthE; rw [if_pos h0, if_pos hk]
      have e2 : depthR s ls k = [] := by unfold depthR; rw [e1]; rfl
      rw [e1, e2, errV_of (by omega)]
      exact (depth_neg s v ls k w h h0 hk).mono fun e w' h => ⟨_, h.1, ownD_nil _ _, h.2⟩
    · have e1 : depthE s ls k = 0 := by unfold depthE; rw [if_pos h0, if_neg hk]
      have e2 : depthR s ls k = tells (ls.take k.toNat) := by unfold depthR; rw [e1]; rfl
      rw [e1, e2, errV_zero]
      rcases h with ⟨rfl, rfl⟩ | ⟨b, o, c, rfl, h2, h3, h4, h5⟩
      · rw [List.take_nil]; exact depth_nil s k w h0 hk
      · exact depth_some s b o c ls k w h4 h2 h3 h5 h0 hk
  · have e1 : depthE s ls k = schk s ls := by unfold depthE; rw [if_neg h0]
    have e2 : depthR s ls k = [] := by unfold depthR; rw [e1, if_neg h0]
    rw [e1, e2]
    exact (depth_bad s v ls k w h h0).mono fun e w' h => ⟨_, h.1, ownD_nil _ _, h.2⟩
end Go.Proofs.YtifgikhdlilobaaDoor.sid
