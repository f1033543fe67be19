import Derived.Test.YtifjhlgjgnnnpaaGreatFlrFe
import Derived.Test.YtifjhlgjgnnnpaaGreatFlrSwp
namespace Go.Proofs.YtifjhlgjgnnnpaaGreat
namespace flr
open Go.RowKit
open que (R rchk)
open sid (L DL LS)
open mee (T tV OwnT sumT)
open ord (O oV chk errV errV_zero errV_of prB)
open bok (bookE inBook)
open pur (Pz Pu Ok flatP pL payE payP giveE giveP)
open wak (OwnM OwnQ St SL Lies oL idx Trn)
theorem fdo_pay{f:FS}{o:O}{who n:Int}(h:payE f.ps who n=0):fdo f ⟨4,o,who,n⟩=.ok { turnOf f with ps:=payP f.ps who n }:=by
 have e:doC (turnOf f) ⟨4,o,who,n⟩=.ok { turnOf f with ps:=payP f.ps who n }:=by
  show payS (turnOf f) who n=_
  unfold payS
  rw[if_pos (show payE (turnOf f).ps who n=0 from h)]
  rfl
 unfold fdo
 rw[e]
 exact zAq _ _ rfl
theorem fdo_give{f:FS}{o:O}{who n:Int}(h:giveE f.ps who n=0):fdo f ⟨5,o,who,n⟩=.ok { turnOf f with ps:=giveP f.ps who n }:=by
 have e:doC (turnOf f) ⟨5,o,who,n⟩=.ok { turnOf f with ps:=giveP f.ps who n }:=by
  show giveS (turnOf f) who n=_
  unfold giveS
  rw[if_pos (show giveE (turnOf f).ps who n=0 from h)]
  rfl
 unfold fdo
 rw[e]
 exact zAq _ _ rfl
theorem do_ok(F:Nat)(f:FS)(v:FV)(what a1 a2 a3 a4 a5 a6 a7 a8 who n:Int)(w:World)(s:TS)(h:FM w F f v)(hw:WfF f)(hid:(Lit.int .i64 a1).wf=true)(e:fdo f ⟨what,⟨a1,a2,a3,a4,a5,a6,a7,a8⟩,who,n⟩=.ok s) :
  Calls Tryz.prog 8 #[.pointer (some ⟨F,0,none⟩),.agg #[.int .i64 what,.int .i64 a1,.int .i64 a2,.int .i64 a3,.int .i64 a4,.int .i64 a5,.int .i64 a6,.int .i64 a7,.int .i64 a8,.int .i64 who,.int .i64 n]] w fun e w'=>∃q k v',e=.returned (.tuple #[.slice q s.evs.length k,.nilIface])∧OwnM w' w.heap.size 42 10 (.slice q s.evs.length k) s.evs.length (flatE s.evs)∧FM w' F (floorOf s) v'∧w.grownBy w' (some F):=by
 refine(zKG F f v what a1 a2 a3 a4 a5 a6 a7 a8 who n w h hw hid).mono ?_
 rintro e' w'⟨h1,-⟩
 obtain⟨⟨q,m,k,rfl,ho⟩,⟨v',hv⟩,hg⟩:=h1 s e
 obtain⟨q',c',hx⟩:=OwnM.form ho
 cases hx
 exact⟨q,k,v',rfl,ho,hv,hg⟩
structure FloorAt (w w' : World) (F:Nat) (f:FS):Prop where
 fm:∃v,FM w' F f v
 lo:w.heap.size≤F
 bel:Below w.heap.size w w'
theorem FloorAt.step{w w1 w2:World}{F:Nat}{f g:FS}{v:FV}(h:FloorAt w w1 F f)(hg:w1.grownBy w2 (some F))(hm:FM w2 F g v):FloorAt w w2 F g:=
 ⟨⟨v,hm⟩,h.lo,h.bel.grown hg h.bel.size (fun k hk=>by cases hk;exact h.lo)⟩
theorem FloorAt.keep{w w1 w2:World}{F:Nat}{f:FS}(h:FloorAt w w1 F f)(hb:Below w1.heap.size w1 w2):FloorAt w w2 F f:=
 ⟨by obtain⟨v,hv⟩:=h.fm;exact⟨v,hv.below hb⟩,h.lo,h.bel.trans (hb.mono h.bel.size)⟩
theorem do_at{w w1:World}{F:Nat}{f:FS}(what a1 a2 a3 a4 a5 a6 a7 a8 who n:Int)(s:TS)(h:FloorAt w w1 F f)(hw:WfF f)(hid:(Lit.int .i64 a1).wf=true)(e:fdo f ⟨what,⟨a1,a2,a3,a4,a5,a6,a7,a8⟩,who,n⟩=.ok s) :
  Calls Tryz.prog 8 #[.pointer (some ⟨F,0,none⟩),.agg #[.int .i64 what,.int .i64 a1,.int .i64 a2,.int .i64 a3,.int .i64 a4,.int .i64 a5,.int .i64 a6,.int .i64 a7,.int .i64 a8,.int .i64 who,.int .i64 n]] w1 fun e w'=>∃q k,e=.returned (.tuple #[.slice q s.evs.length k,.nilIface])∧OwnM w' w1.heap.size 42 10 (.slice q s.evs.length k) s.evs.length (flatE s.evs)∧FloorAt w w' F (floorOf s):=by
 obtain⟨v,hv⟩:=h.fm
 refine(do_ok F f v what a1 a2 a3 a4 a5 a6 a7 a8 who n w1 s hv hw hid e).mono ?_
 rintro e' w'⟨q,k,v',rfl,ho,hm,hg⟩
 exact⟨q,k,rfl,ho,h.step hg hm⟩
end flr
end Go.Proofs.YtifjhlgjgnnnpaaGreat
