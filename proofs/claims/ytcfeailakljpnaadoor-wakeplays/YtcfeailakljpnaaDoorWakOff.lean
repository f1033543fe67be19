/- Contracts over this seat's translation: the document's Off; append of orders. -/
import Derived.Test.YtcfeailakljpnaaDoorWakCat
namespace Go.Proofs.YtcfeailakljpnaaDoor.wak
open Go.RowKit Go.Proofs.YtcfeailakljpnaaDoor.ord
open Go.Proofs.YtcfeailakljpnaaDoor.spn (keeps bcell)

theorem Lies.drop {w : World} {b o : Nat} {zs : List O} (h : Lies w b o zs) (n : Nat) : Lies w b (o + n * 8) (zs.drop n) := by
  intro j hj i v hv
  have hj2 : n + j < zs.length := by rw [List.length_drop] at hj; omega
  have e : (zs.drop n)[j]! = zs[n + j]! := by
    rw [getE _ _ hj, getE _ _ hj2, List.getElem_drop]
  rw [e] at hv
  have := h (n + j) hj2 i v hv
  rw [← this]
  congr 2
  rw [Nat.add_mul]; omega
theorem cut_sl {w : World} {b o c k : Nat} {zs : List O} (hk : k ≤ zs.length) (hc : zs.length ≤ c) (hm : c ≤ 9223372036854775807) (hb : b < w.heap.size) (h : Lies w b o zs) : SL w (.slice (some ⟨b, o + k * 8, none⟩) (zs.length - k) (c - k)) (zs.drop k) := by
  refine .inr ⟨b, o + k * 8, c - k, ?_, ?_, by omega, hb, h.drop k⟩
  · rw [List.length_drop]
  · rw [List.length_drop]; omega
set_option maxRecDepth 100000 in
set_option maxHeartbeats 1000000 in
theorem off_some (b o c n : Nat) (zs : List O) (i : Nat) (w : World) (hN : zs.length = n) (hb : b < w.heap.size) (hc : n ≤ c) (hm : c ≤ 9223372036854775807) (hn : n ≤ 100) (hl : Lies w b o zs) (hi : i < n) :
    Calls Tryd.prog 9 #[.slice (some ⟨b, o, none⟩) n c, .int .i64 (i : Int)] w fun e w' => ∃ v, e = .returned v ∧ OwnQ w' w.heap.size v (zs.take i ++ zs.drop (i + 1)) ∧ Below w.heap.size w w' := by
  obtain ⟨i0, hi0, hz0, hz1, hz2⟩ := infoR'
  have HI : Hid (Tryd.prog.info? 29 = some i0) := hi0
  clear hi0
  have HF1 : Hid (∀ j u, (flat (zs.take i))[j]? = some u → w.cell? ((⟨b, o, none⟩ : Addr).add j) = some u) := lies_flat (hl.take i)
  have HO0 : Hid (OwnM w w.heap.size 29 8 (.slice none 0 0) 0 []) := ⟨rfl, .inl ⟨rfl, rfl⟩⟩
  have HN : Hid (zs.length = n) := hN
  have HL : Hid (Lies w b o zs) := hl
  have hft : (flat (zs.take i)).length = i * 8 := by rw [flat_len, List.length_take]; congr 1; omega
  have HFT : Hid ((flat (zs.take i)).length = i * 8) := hft
  clear hl hN hft
  have g1 : ¬ ((i : Int) < 0) := by omega
  have g2 : (i : Int) ≤ (c : Int) := by omega
  have g3 : (i : Int) + 1 ≤ (n : Int) := by omega
  have g4 : (n : Int) ≤ (c : Int) := by omega
  have e1 : wrap64 ((i : Int) + 1) = ((i + 1 : Nat) : Int) := by unfold wrap64; omega
  have g5 : ¬ (((i + 1 : Nat) : Int) < 0) := by omega
  have g6 : ((i + 1 : Nat) : Int) ≤ (n : Int) := by omega
  go_enter Tryd.func9, Tryd.ntmps9
  go_wp2_with (at_builtin; (refine wpList_append_mid _ rfl _ _ 22 rfl w.heap.size 29 i0 zeroR 8 64 Tryd.underlying22 HI.out hz0 hz1 hz2 rfl (.slice none 0 0) 0 [] rfl HO0.out ⟨b, o, none⟩ i c (flat (zs.take i)) rfl HFT.out HF1.out (flat_one _) ?c3 ?c4 ?c5 ?_))
  case c3 => unfold maxLen; omega
  case c4 => omega
  intro v1 w1 hO1 hgr1 hat1
  have HB1 : Hid (Below w.heap.size w w1) := (Below.refl _ _).grown hgr1 (Nat.le_refl _) (fun k hk => by simp [Value.ownBlock] at hk)
  have HO1 : Hid (OwnM w1 w.heap.size 29 8 v1 i (flat (zs.take i))) := hO1
  clear hO1 hgr1 hat1 HF1 HO0
  have HE : Hid (∀ w' v', OwnM w' w.heap.size 29 8 v' (i + (n - (i + 1))) (flat (zs.take i) ++ flat (zs.drop (i + 1))) → OwnQ w' w.heap.size v' (zs.take i ++ zs.drop (i + 1))) := by
    intro w' v' h
    show OwnM _ _ _ _ _ _ _
    rw [flat_append, List.length_append, List.length_take, List.length_drop, HN.out, Nat.min_eq_left (by omega)]
    exact h
  have HFD : Hid ((flat (zs.drop (i + 1))).length = (n - (i + 1)) * 8) := by
    show _ = _
    rw [flat_len, List.length_drop, HN.out]
  by_cases hcap : i + 1 = c
  · have hni : n = i + 1 := by omega
    have HD : Hid (flat (zs.drop (i + 1)) = []) := by
      show _ = _
      rw [List.drop_eq_nil_of_le (by rw [HN.out]; omega)]
      rfl
    rw [HD.out] at HE
    subst hcap
    subst hni
    rw [Nat.sub_self, Nat.add_zero, List.append_nil] at HE
    go_wp2_with (at_builtin; (refine wpList_append_mid _ rfl _ _ 22 rfl w.heap.size 29 i0 zeroR 8 64 Tryd.underlying22 HI.out hz0 hz1 hz2 rfl v1 i (flat (zs.take i)) rfl HO1.out ⟨b, o, none⟩ 0 0 [] rfl rfl (fun j u hu => by simp at hu) (fun u hu => by simp at hu) ?d3 ?d4 ?d5 ?_))
    case d3 => unfold maxLen; omega
    case d4 => omega
    case d5 => exact HB1.out.size
    intro v2 w2 hO2 hgr2 hat2
    have HB2 : Hid (Below w.heap.size w w2) := HB1.out.grown hgr2 HB1.out.size (fun k hk => (HO1.out.lt k hk).1)
    have HO2 : Hid (OwnQ w2 w.heap.size v2 (zs.take i ++ zs.drop (i + 1))) := HE.out _ _ hO2
    clear hO2 hgr2 hat2
    go_wp2_with fail
    go_ret
    exact ⟨_, rfl, HO2.out, HB2.out⟩
  · have HF2 : Hid (∀ j u, (flat (zs.drop (i + 1)))[j]? = some u → w1.cell? ((⟨b, o + (i + 1) * 8, none⟩ : Addr).add j) = some u) := lies_flat ((HL.out.below hb HB1.out).drop (i + 1))
    go_wp2_with (at_builtin; (refine wpList_append_mid _ rfl _ _ 22 rfl w.heap.size 29 i0 zeroR 8 64 Tryd.underlying22 HI.out hz0 hz1 hz2 rfl v1 i (flat (zs.take i)) rfl HO1.out ⟨b, o + (i + 1) * 8, none⟩ (n - (i + 1)) (c - (i + 1)) (flat (zs.drop (i + 1))) rfl HFD.out HF2.out (flat_one _) ?d3 ?d4 ?d5 ?_))
    case d3 => unfold maxLen; omega
    case d4 => omega
    case d5 => exact HB1.out.size
    intro v2 w2 hO2 hgr2 hat2
    have HB2 : Hid (Below w.heap.size w w2) := HB1.out.grown hgr2 HB1.out.size (fun k hk => (HO1.out.lt k hk).1)
    have HO2 : Hid (OwnQ w2 w.heap.size v2 (zs.take i ++ zs.drop (i + 1))) := HE.out _ _ hO2
    clear hO2 hgr2 hat2
    go_wp2_with fail
    go_ret
    exact ⟨_, rfl, HO2.out, HB2.out⟩
/-- Append a queue to a queue of the call's own. -/
theorem run_append_q (w : World) (base : Nat) (v x : Value) (zs ys : List O) (hown : OwnQ w base v zs) (hx : SL w x ys) (hlen : zs.length + ys.length ≤ 1000) (hbase : base ≤ w.heap.size) :
    ∃ v' w', (Builtin.append_ #[22, 22] 22 #[v, x]).run Tryd.prog w = .ok v' w' ∧ OwnQ w' base v' (zs ++ ys) ∧ w.grownBy w' v.ownBlock ∧ (v'.ownBlock = v.ownBlock ∨ v'.ownBlock = some w.heap.size) := by
  obtain ⟨i0, hi0, hz0, hz1, hz2⟩ := infoR'
  rcases hx with ⟨rfl, rfl⟩ | ⟨b, o, c, rfl, h2, h3, h4, h5⟩
  · refine ⟨v, w, run_append_none w _ _ _ _ i0 8 Tryd.underlying22 hi0 _ _ _ hown, by rw [List.append_nil]; exact hown, ⟨rfl, rfl, rfl, Nat.le_refl _, fun _ _ _ => rfl⟩, .inl rfl⟩
  · obtain ⟨v', w', e1, e2, e3, e4⟩ := run_append_mid (P := Tryd.prog) w base 22 22 29 i0 zeroR 8 64 Tryd.underlying22 hi0 hz0 hz1 hz2 rfl v zs.length (flat zs) hown ⟨b, o, none⟩ ys.length c (flat ys) (flat_len _) (lies_flat h5) (flat_one _) (by unfold maxLen; omega) (by omega) hbase
    refine ⟨v', w', e1, ?_, e3, e4⟩
    show OwnM _ _ _ _ _ _ _
    rw [flat_append, List.length_append]
    exact e2

theorem off_any (v : Value) (zs : List O) (i : Nat) (w : World) (h : SL w v zs) (hi : i < zs.length) (hn : zs.length ≤ 100) :
    Calls Tryd.prog 9 #[v, .int .i64 (i : Int)] w fun e w' => ∃ v, e = .returned v ∧ OwnQ w' w.heap.size v (zs.take i ++ zs.drop (i + 1)) ∧ Below w.heap.size w w' := by
  rcases h with ⟨rfl, rfl⟩ | ⟨b, o, c, rfl, h2, h3, h4, h5⟩
  · exact absurd hi (by simp)
  · exact off_some b o c zs.length zs i w rfl h4 h2 h3 hn h5 hi
end Go.Proofs.YtcfeailakljpnaaDoor.wak
