/- Contracts over this seat's translation: (*Stops).find. -/
import Derived.Test.YtcfeailakljpnaaDoorWakSl
namespace Go.Proofs.YtcfeailakljpnaaDoor.wak
open Go.RowKit Go.Proofs.YtcfeailakljpnaaDoor.spn Go.Proofs.YtcfeailakljpnaaDoor.ord

def idx (id : Int) : List O → Int
  | [] => -1
  | r :: t => if r.id = id then 0 else if idx id t < 0 then -1 else idx id t + 1
def has (id : Int) (zs : List O) : Bool := zs.any (fun r => decide (r.id = id))
theorem idx_ge (id : Int) (zs : List O) : -1 ≤ idx id zs := by
  induction zs with
  | nil => simp [idx]
  | cons r t ih => unfold idx; split; omega; split <;> omega
theorem idx_lt (id : Int) (zs : List O) : idx id zs < zs.length := by
  induction zs with
  | nil => simp [idx]
  | cons r t ih => unfold idx; rw [List.length_cons]; split; omega; split <;> omega
theorem idx_cons (id : Int) (r : O) (t : List O) : idx id (r :: t) = if r.id = id then 0 else if idx id t < 0 then -1 else idx id t + 1 := rfl
theorem idxFrom (id : Int) (x : O) (zs : List O) : ∀ i, Lib.idxByFrom (fun _ y => decide (y.id = id)) x zs i = if idx id zs < 0 then -1 else (i : Int) + idx id zs := by
  induction zs with
  | nil => intro i; rfl
  | cons r t ih =>
    intro i
    have := idx_ge id t
    show (if decide (r.id = id) = true then (i : Int) else Lib.idxByFrom (fun _ y => decide (y.id = id)) x t (i + 1)) = _
    rw [ih, idx_cons]
    by_cases h : r.id = id
    · rw [if_pos (decide_eq_true h), if_pos h, if_neg (by omega), Int.add_zero]
    · rw [if_neg (by simpa using h), if_neg h]
      by_cases h2 : idx id t < 0
      · rw [if_pos h2, if_pos h2, if_pos (by omega)]
      · rw [if_neg h2, if_neg h2, if_neg (by omega)]; omega
theorem idxBy_is (id : Int) (x : O) (zs : List O) : Lib.idxBy (fun _ y => decide (y.id = id)) zs x = idx id zs := by
  have := idx_ge id zs
  unfold Lib.idxBy
  rw [idxFrom]
  split <;> omega

theorem find_pred (id : Int) (B : Nat) (w : World) (hB : B < w.heap.size) (hc : w.cell? ⟨B, 0, none⟩ = some (.int .i64 id)) :
    PredBelow Tryd.prog 40 #[.pointer (some ⟨B, 0, none⟩)] (fun x => .agg (oL x).toArray) (fun x => decide (x.id = id)) w := by
  intro W x hb
  obtain ⟨a, b, c, d, e, f, g, h⟩ := x
  show Calls Tryd.prog 40 #[.agg #[.int .i64 a, .int .i64 b, .int .i64 c, .int .i64 d, .int .i64 e, .int .i64 f, .int .i64 g, .int .i64 h], .pointer (some ⟨B, 0, none⟩)] W _
  have hc2 := keeps hb hc
  have hz : B < W.heap.size := Nat.lt_of_lt_of_le hB hb.size
  go_enter Tryd.func40, Tryd.ntmps40
  go_wp2
  go_ret
  exact ⟨rfl, hb.alloc hb.size _⟩


/-- What the Stops at a block hold: the slice value v, which reads as these orders, in a block of the call's own from b on. -/
structure St (w : World) (b p : Nat) (v : Value) (os : List O) : Prop where
  blk : w.heap[p]? = some (.cells #[v] 49 (0, 0))
  le : b ≤ p
  own : OwnQ w b v os

theorem St.lt {w : World} {b p : Nat} {v : Value} {os : List O} (h : St w b p v os) : p < w.heap.size := (Array.getElem?_eq_some_iff.1 h.blk).1
theorem St.cell {w : World} {b p : Nat} {v : Value} {os : List O} (h : St w b p v os) : w.cell? ⟨p, 0, none⟩ = some v := by simp [World.cell?, h.blk]
theorem St.below {w w' : World} {b p : Nat} {v : Value} {os : List O} (h : St w b p v os) (hB : Below w.heap.size w w') : St w' b p v os :=
  ⟨(hB.block p h.lt).trans h.blk, h.le, h.own.below hB⟩

theorem idxf_nil (B : Nat) (W : World) : Calls Tryd.prog 39 #[.slice none 0 0, .func (.func 40) #[] #[.pointer (some ⟨B, 0, none⟩)]] W fun e w' => e = .returned (.int .i64 (-1)) ∧ Below W.heap.size W w' := by
  go_enter Tryd.func39, Tryd.ntmps39
  go_wp2
  go_loopg [5, 8] 0 (fun _ _ s8 wr => s8 = .int .i64 0 ∧ wr = W)
  case atStart => exact ⟨rfl, rfl⟩
  case round =>
    obtain ⟨rfl, rfl⟩ := hrel
    go_wp2
    go_ret
    exact ⟨rfl, Below.refl _ _⟩

theorem idxf_any (id : Int) (v : Value) (zs : List O) (w : World) (B : Nat) (hB : B < w.heap.size) (hc : w.cell? ⟨B, 0, none⟩ = some (.int .i64 id)) (h : SL w v zs) :
    Calls Tryd.prog 39 #[v, .func (.func 40) #[] #[.pointer (some ⟨B, 0, none⟩)]] w fun e w' => e = .returned (.int .i64 (idx id zs)) ∧ Below w.heap.size w w' := by
  rcases h with ⟨rfl, rfl⟩ | ⟨b, o, c, rfl, h2, h3, h4, h5⟩
  · exact idxf_nil B w
  · have eg : ∀ args w, (callFunc 40 args).run Tryd.prog w = .ok (.enter 40 args) w := enters_of Tryd.func40 (by kernel_rfl) rfl
    have hcon := AnyQ.slices_IndexFunc Tryd.lq6o 8 Tryd.isAgg29 Tryd.sizeOf29 oL (fun x => rfl) (fun x => decide (x.id = id)) 40 #[.pointer (some ⟨B, 0, none⟩)] eg b o zs.length c zs
      w (find_pred id B w hB hc) (Nat.le_refl _) (by omega) h4 h5
    change Calls Tryd.prog 39 _ _ _ at hcon
    rw [List.take_length, idxBy_is] at hcon
    exact hcon

set_option maxHeartbeats 1000000 in
theorem find_any (id : Int) (b p : Nat) (v : Value) (os : List O) (w : World) (h : St w b p v os) :
    Calls Tryd.prog 19 #[.pointer (some ⟨p, 0, none⟩), .int .i64 id] w fun e w' => e = .returned (.int .i64 (idx id os)) ∧ Below w.heap.size w w' := by
  have hB : Below w.heap.size w (w.alloc (.cells #[.int .i64 id] 3)) := (Below.refl _ _).alloc (Nat.le_refl _) _
  have hs := h.below hB
  have hcon := idxf_any id v os _ w.heap.size (by simp) (by simp [go_sem]) (hs.own.sl)
  have hc := hs.cell
  have hp : p < w.heap.size + 1 := by have := h.lt; omega
  generalize idx id os = k at *
  clear h hs
  go_enter Tryd.func19, Tryd.ntmps19
  go_wp2_with (go_at_call 39; refine hcon.mono ?_; rintro e w' ⟨rfl, hb'⟩)
  go_ret
  exact ⟨rfl, hB.trans (hb'.mono (by simp))⟩
end Go.Proofs.YtcfeailakljpnaaDoor.wak
