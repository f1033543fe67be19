/- Contracts over this seat's translation: package wire's (field).write and sum. -/
import Derived.Test.YtndkabnmffgebaaDoorWirPure0
import Derived.Lib.OthersKept
namespace Go.Proofs.YtndkabnmffgebaaDoor.wir
open Go.RowKit

/-- Bytes as cells. -/
def bCs (l : List UInt8) : List Value := l.map fun b => Value.int .u8 (b.toNat : Int)
theorem bCs_length (l : List UInt8) : (bCs l).length = l.length := by simp [bCs]
theorem bCs_append (a b : List UInt8) : bCs (a ++ b) = bCs a ++ bCs b := by simp [bCs]
/-- Bytes of the call's own. -/
abbrev OwnB (B : Nat) (w : World) (v : Value) (l : List UInt8) : Prop := w.ownsRow B 5 1 v l.length (bCs l)
theorem infoU : ∃ i, Tryd.prog.info? 5 = some i ∧ i.zero = some (.int .u8 0) ∧ i.size = 1 ∧ i.bytes = 1 := by
  have h : ((Tryd.prog.info? 5).map (fun i => (i.zero, i.size, i.bytes))) = some (some (.int .u8 0), 1, 1) := by kernel_rfl
  obtain ⟨i, hi, he⟩ := Option.map_eq_some_iff.1 h
  simp only [Prod.mk.injEq] at he
  exact ⟨i, hi, he.1, he.2.1, he.2.2⟩
theorem own_form {w : World} {B : Nat} {e : TypeId} {sz : Nat} {v : Value} {n : Nat} {xs : List Value} (h : w.ownsRow B e sz v n xs) : ∃ q c, v = .slice q n c := by
  rcases h.2 with ⟨hv, hn⟩ | ⟨g, cap, cur, hv, -⟩
  · subst hn; exact ⟨_, _, hv⟩
  · exact ⟨_, _, hv⟩
theorem own_kind {w : World} {B : Nat} {e : TypeId} {sz : Nat} {v : Value} {n : Nat} {xs : List Value} (h : w.ownsRow B e sz v n xs) : ∀ g, v.ownBlock = some g → ∃ c fz, w.heap[g]? = some (.cells c e fz) := by
  intro g hg
  rcases h.2 with ⟨rfl, _⟩ | ⟨g', cap, cur, rfl, _, hgg, _⟩
  · simp [Value.ownBlock] at hg
  · simp [Value.ownBlock] at hg
    subst hg
    exact ⟨_, _, hgg⟩
theorem cell1 {w : World} {e : TypeId} {u : Value} : ∀ j x, [u][j]? = some x → (w.alloc (.cells #[u] e)).cell? ((⟨w.heap.size, 0, none⟩ : Addr).add j) = some x := by
  intro j x hx
  cases j with
  | zero =>
    have hnew := heap_alloc_new w (.cells #[u] e)
    have ha : (Addr.add ⟨w.heap.size, 0, none⟩ 0) = ⟨w.heap.size, 0, none⟩ := rfl
    rw [ha]
    simp at hx
    subst hx
    simp only [World.cell?, hnew]
    rfl
  | succ j => simp at hx
theorem bt_wrap (x : Int) (k : Nat) : IntKind.u8.wrap (x.fdiv (2 ^ (k * 8))) = ((bt x k).toNat : Int) := by
  rw [bt_nat, IntKind.wrap_u8, Int.fdiv_eq_ediv_of_nonneg _ (Int.pow_nonneg (by decide))]

set_option maxRecDepth 100000 in
set_option maxHeartbeats 400000 in
/-- write: a field behind bytes of the call's own. -/
theorem write_any (B cb o s : Nat) (x : Int) (v : Value) (bs : List UInt8) (w : World) (hB : B ≤ w.heap.size) (hs : s ≤ 8) (ho : ∃ cs e, w.heap[cb]? = some (.cells cs e (0, 0)) ∧ e ≠ 5 ∧ cs[o]? = some (.int .i64 x))
    (hown : OwnB B w v bs) (hlen : bs.length + s ≤ 1000000) :
    Calls Tryd.prog 23 #[.agg #[.pointer (some ⟨cb, o, none⟩), .int .i64 s], v] w
      fun e w' => ∃ v', e = .returned v' ∧ OwnB B w' v' (bs ++ wrt x s) ∧ Below B w w' ∧ Lib.OthersKept 5 none w w' := by
  obtain ⟨i0, hi, hz0, hz1, hz2⟩ := infoU
  have HI := hidW (And.intro hi (And.intro hz0 (And.intro hz1 hz2)))
  clear hi hz0 hz1 hz2
  obtain ⟨n0, hn0⟩ : ∃ n, n = bs.length := ⟨_, rfl⟩
  have HN := hidW (And.intro hn0 hlen)
  obtain ⟨X, hX⟩ : ∃ X, X = w.heap.size := ⟨_, rfl⟩
  have HB := hidW (And.intro hB hX)
  obtain ⟨cs, e0, hcb, he0, hcx⟩ := ho
  obtain ⟨V, hV⟩ : ∃ V, V = w.alloc (.cells #[.pointer (some ⟨cb, o, none⟩), .int .i64 s] 59) := ⟨_, rfl⟩
  have hltc : cb < w.heap.size := (Array.getElem?_eq_some_iff.1 hcb).1
  have HV : Hid (Below B w V ∧ Lib.OthersKept 5 none w V ∧ V.heap[X]? = some (.cells #[.pointer (some ⟨cb, o, none⟩), .int .i64 s] 59 (0, 0)) ∧ V.heap[cb]? = some (.cells cs e0 (0, 0)) ∧ OwnB B V v bs ∧ B ≤ V.heap.size) := by
    subst hV hX
    refine ⟨(Below.refl _ _).alloc hB _, (Lib.OthersKept.refl _ _ _).alloc _, heap_alloc_new _ _, (Lib.alloc_old _ _ _ hltc).trans hcb, World.ownsRow.alloc hown _, by rw [World.size_alloc]; omega⟩
  have HCX := hidW (And.intro hcx (And.intro he0 hltc))
  have hk0 : V.cell? ⟨X, 1, none⟩ = some (.int .i64 s) := by simp [World.cell?, HV.out.2.2.1]
  have hsw : wrap64 ((s : Int) - 1) = (s : Int) - 1 := by unfold wrap64; omega
  have HSW : Hid (wrap64 ((s : Int) - 1) = (s : Int) - 1 ∧ s ≤ 8) := ⟨hsw, hs⟩
  clear hown hlen hB hcb hcx he0 hltc hsw hs hn0
  go_enter Tryd.func23, Tryd.ntmps23
  go_upto_region 1 with fail
  simp only [← hX, ← hV]
  clear hX hV
  go_wp2_with fail
  go_loopg [1, 5] s (fun gg s1 s5 wx => ∃ k : Nat, k ≤ s ∧ k ≤ gg ∧ s5 = .int .i64 ((k : Int) - 1) ∧ ∃ pre, pre ++ wrt x k = bs ++ wrt x s ∧ Aside (OwnB B wx s1 pre ∧ Below B V wx ∧ Lib.OthersKept 5 none V wx ∧ B ≤ wx.heap.size))
  case atStart => exact ⟨s, Nat.le_refl _, Nat.le_refl _, by first | exact congrArg (Value.int .i64) HSW.out.1 | rfl, bs, rfl, HV.out.2.2.2.2.1, Below.refl _ _, Lib.OthersKept.refl _ _ _, HV.out.2.2.2.2.2⟩
  case round =>
    obtain ⟨k, hk, hg, rfl, pre, hp, HA⟩ := hrel
    have HA2 := hidW HA.out
    clear HA
    cases k with
    | zero =>
      have hz : ¬ ((0 : Int) ≤ ((0 : Nat) : Int) - 1) := by decide
      have hp2 : pre = bs ++ wrt x s := by rw [← hp]; simp [wrt]
      subst hp2
      clear hp
      go_wp2_with fail
      go_ret
      exact ⟨_, rfl, HA2.out.1, HV.out.1.trans HA2.out.2.1, HV.out.2.1.trans HA2.out.2.2.1⟩
    | succ j =>
      have ej : ((j + 1 : Nat) : Int) - 1 = (j : Int) := by omega
      simp only [ej]
      have hz : (0 : Int) ≤ (j : Int) := by omega
      have hlp : pre.length + (j + 1) = bs.length + s := by
        have := congrArg List.length hp
        simpa [wrt_length] using this
      have hltX : X < V.heap.size := (Array.getElem?_eq_some_iff.1 HV.out.2.2.1).1
      have hcX : wr.heap[X]? = some (.cells #[.pointer (some ⟨cb, o, none⟩), .int .i64 s] 59 (0, 0)) := HA2.out.2.2.1 X _ HV.out.2.2.1 (by simp) (by intro c fz h; cases h)
      have hcC : wr.heap[cb]? = some (.cells cs e0 (0, 0)) := HA2.out.2.2.1 cb _ HV.out.2.2.2.1 (by simp) (by intro c fz h; cases h; exact HCX.out.2.1 rfl)
      have k0 : wr.cell? ⟨X, 0, none⟩ = some (.pointer (some ⟨cb, o, none⟩)) := by simp [World.cell?, hcX]
      have k1 : wr.cell? ⟨cb, o, none⟩ = some (.int .i64 x) := by simp only [World.cell?, hcC]; exact HCX.out.1
      have HJ : Hid (j + 1 ≤ s ∧ j + 1 ≤ gk ∧ pre.length + (j + 1) = bs.length + s ∧ pre ++ wrt x (j + 1) = bs ++ wrt x s) := ⟨hk, hg, hlp, hp⟩
      have hw8 : wrap64 ((j : Int) * 8) = (j : Int) * 8 := by have := HSW.out.2; unfold wrap64; omega
      have hs0 : (0 : Int) ≤ (j : Int) * 8 := by omega
      have hs1 : (j : Int) * 8 ≤ 64 := by have := HSW.out.2; omega
      obtain ⟨q, c, rfl⟩ := own_form HA2.out.1
      clear hk hg hlp hp hcX hcC ej
      go_upto_region 4 with fail
      go_wp2_with (at_builtin; refine wpList_append_own _ rfl _ _ 39 rfl B 5 i0 (.int .u8 0) 1 1 (by kernel_rfl) HI.out.1 HI.out.2.1 HI.out.2.2.1 HI.out.2.2.2 rfl (by decide) _ _ _ rfl (HA2.out.1.alloc _) ⟨wr.heap.size, 0, none⟩ 1 1 [.int .u8 (x / 2 ^ (j * 8) % 256)] rfl rfl cell1 ?c2 ?c3 ?c4 ?c5 ?_)
      case c2 => intro u hu; simp at hu; subst hu; rfl
      case c3 => have := HJ.out.2.2.1; have := HN.out; unfold maxLen; omega
      case c4 => have := HJ.out.2.2.1; have := HN.out; omega
      case c5 => rw [World.size_alloc]; have := HA2.out.2.2.2; omega
      intro v' w2 hown' hgr _
      have HE : Hid (((bt x j).toNat : Int) = x / 2 ^ (j * 8) % 256) := bt_nat x j
      have HO2 : Hid (OwnB B w2 v' (pre ++ [bt x j])) := by
        show w2.ownsRow B 5 1 v' (pre ++ [bt x j]).length (bCs (pre ++ [bt x j]))
        rw [bCs_append, List.length_append]
        show w2.ownsRow B 5 1 v' (pre.length + 1) (bCs pre ++ [.int .u8 ((bt x j).toNat : Int)])
        rw [HE.out]
        exact hown'
      have HF : Hid (Below B V w2 ∧ Lib.OthersKept 5 none V w2 ∧ B ≤ w2.heap.size) := by
        obtain ⟨f1, f2, f3, f4⟩ := HA2.out
        have hgs := hgr.size
        rw [World.size_alloc] at hgs
        exact ⟨(f2.alloc f4 _).grown hgr (by rw [World.size_alloc]; omega) (fun k hk => (f1.lt k hk).1), (f3.alloc _).grown hgr (own_kind (f1.alloc _)), by omega⟩
      clear hown' hgr HE k0 k1 hs0 hs1
      have hjw : wrap64 ((j : Int) - 1) = (j : Int) - 1 := by have := HSW.out.2; have := HJ.out.1; unfold wrap64; omega
      have HJW := hidW hjw
      clear hjw
      go_wp2_with fail
      go_roundg j
      case measure => have := HJ.out; omega
      case rel => exact ⟨j, by have := HJ.out; omega, Nat.le_refl _, by first | exact congrArg (Value.int .i64) HJW.out | rfl, pre ++ [bt x j], by rw [List.append_assoc]; exact HJ.out.2.2.2, HO2.out, HF.out.1, HF.out.2.1, HF.out.2.2⟩

theorem sumB_take {l : List UInt8} {k : Nat} (h : k < l.length) : sumB (l.take (k + 1)) = sumB (l.take k) + (l[k]!).toNat := by
  unfold sumB
  rw [List.take_succ_eq_append_getElem h, List.map_append, List.sum_append, getW _ _ h]
  simp
theorem sumB_le (l : List UInt8) : sumB l ≤ 255 * l.length := by
  induction l with
  | nil => simp [sumB]
  | cons a l ih =>
    have ha : a.toNat ≤ 255 := by have := a.toNat_lt; omega
    simp only [sumB, List.map_cons, List.sum_cons, List.length_cons] at ih ⊢
    omega
theorem own_byte {w : World} {B : Nat} {q : Option Addr} {c : Nat} {l : List UInt8} (h : OwnB B w (.slice q l.length c) l) {k : Nat} (hk : k < l.length) : ∃ g, q = some ⟨g, 0, none⟩ ∧ w.cell? ⟨g, k, none⟩ = some (.int .u8 ((l[k]!).toNat : Int)) := by
  rcases h.2 with ⟨h1, h2⟩ | ⟨g, cap, cur, hv, h1, h2, h3, h4, h5, h6⟩
  · omega
  · cases hv
    refine ⟨g, rfl, ?_⟩
    have := World.ownsRow.cellAt h k (by omega)
    rw [this]
    simp [bCs, hk]
theorem last_is (l : List UInt8) : ((lastB l).toNat : Int) = ((sumB l : Nat) : Int) % 251 := by
  unfold lastB
  rw [UInt8.toNat_ofNat']
  omega

set_option maxRecDepth 100000 in
set_option maxHeartbeats 400000 in
/-- sum: of bytes of the call's own. -/
theorem sum_any (B : Nat) (v : Value) (l : List UInt8) (w : World) (hown : OwnB B w v l) (hlen : l.length ≤ 1000000) :
    Calls Tryd.prog 24 #[v] w fun e w' => e = .returned (.int .u8 ((lastB l).toNat : Int)) ∧ w' = w := by
  obtain ⟨q, c, rfl⟩ := own_form hown
  have HO := hidW hown
  obtain ⟨n, hn⟩ : ∃ n, n = l.length := ⟨_, rfl⟩
  have HN := hidW (And.intro hn hlen)
  obtain ⟨V, hV⟩ : ∃ V, V = w := ⟨_, rfl⟩
  have HS := hidW (sumB_le l)
  rw [← hn] at hown ⊢
  clear hown hlen
  simp only [← hV] at HO ⊢
  clear hV hn
  go_enter Tryd.func24, Tryd.ntmps24
  go_wp2_with fail
  go_loopg [3, 5, 8] n (fun gg s3 s5 s8 wx => ∃ k : Nat, k ≤ n ∧ n - k ≤ gg ∧ s8 = .int .i64 k ∧ s3 = .int .i64 ((sumB (l.take k) : Nat) : Int) ∧ V = wx)
  case atStart => exact ⟨0, Nat.zero_le _, by omega, rfl, rfl, rfl⟩
  case round =>
    obtain ⟨k, hk, hg, rfl, rfl, rfl⟩ := hrel
    by_cases hlt : k < n
    · have hltz : (k : Int) < (n : Int) := by omega
      have hin1 : ¬ ((k : Int) < 0) := by omega
      have hlz : k < l.length := by rw [← HN.out.1]; exact hlt
      obtain ⟨g, rfl, hc⟩ := own_byte HO.out hlz
      have hst := sumB_take hlz
      have hle := sumB_le (l.take k)
      have hll : (l.take k).length = k := by rw [List.length_take]; omega
      have hb : (l[k]!).toNat ≤ 255 := by have := (l[k]!).toNat_lt; omega
      generalize hA : sumB (l.take k) = A at *
      generalize hX : l[k]! = x at *
      have hw : wrap64 ((A : Int) + (x.toNat : Int)) = ((A + x.toNat : Nat) : Int) := by have := HN.out.2; have := HN.out.1; unfold wrap64; omega
      have HW := hidW (And.intro hw hst)
      have hwk : wrap64 ((k : Int) + 1) = ((k + 1 : Nat) : Int) := by have := HN.out.2; have := HN.out.1; unfold wrap64; omega
      have HK := hidW (And.intro hwk (And.intro hlt hg))
      have hx0 : (0 : Int) ≤ (x.toNat : Int) ∧ (x.toNat : Int) ≤ 255 := by omega
      clear hw hst hwk hle hll hg hk hA hX hb
      go_wp2_with fail
      go_roundg (n - (k + 1))
      case measure => have := HK.out; omega
      case rel => exact ⟨k + 1, HK.out.2.1, Nat.le_refl _, by first | exact congrArg (Value.int .i64) HK.out.1 | go_num, by rw [HW.out.2]; first | exact congrArg (Value.int .i64) HW.out.1 | go_num, rfl⟩
    · obtain rfl : k = n := by omega
      have hltz : ¬ (k : Int) < (k : Int) := by omega
      have ht : l.take k = l := List.take_of_length_le (by rw [← HN.out.1]; exact Nat.le_refl _)
      rw [ht]
      have hs : sumB l ≤ 255 * 1000000 := by have := HS.out; have := HN.out.2; omega
      have hl := last_is l
      generalize sumB l = A at *
      have HL : Hid (((lastB l).toNat : Int) = (A : Int) % 251) := hl
      have h0 : (0 : Int) ≤ (A : Int) := by omega
      have h1 : (A : Int) ≤ 255000000 := by omega
      clear hk hg hl HS hs ht
      go_wp2_with fail
      go_ret
      exact ⟨congrArg (fun z => Ending.returned (.int .u8 z)) (by rw [HL.out]), rfl⟩
end Go.Proofs.YtndkabnmffgebaaDoor.wir
