import Derived.Test.YtifjhlgjgnnnpaaGreatFlrOk
import Derived.Test.YtifjhlgjgnnnpaaGreatFPPure
set_option maxRecDepth 100000
namespace Go.Proofs.YtifjhlgjgnnnpaaGreat
namespace flr
open Go.RowKit que sid mee bok
open ord (O oV chk prB mB)
open pur (Pz Ok)
def allT(P:Nat→Prop):Nat→Prop
 | 0=>True
 | n+1=>allT P n∧P n
theorem all_lt{P:Nat→Prop}:∀n,allT P n→∀k,k<n→P k
 | 0,_,k,hk=>absurd hk (Nat.not_lt_zero k)
 | n+1,h,k,hk=>by
  by_cases e:k=n
  ·subst e;exact h.2
  ·exact all_lt n h.1 k (by omega)
def rowL(m:Nat):List L:=(List.range m).map fun k=>⟨((100+k:Nat):Int),[⟨((k+1:Nat):Int),1,1,0,0⟩]⟩
def stW(m:Nat):List O:=(List.range m).map fun k=>⟨((100+k:Nat):Int),2,1,2,0,1,0,((100+k:Nat):Int)⟩
def P3(a b c:Pz):List Pz:=a::b::c::(richP 9).drop 3
def sellsF(i:Nat):FS:=⟨0,0,[],rowL i,[],P3 ⟨1,500000000,0,100000,i⟩ ⟨2,500000000,0,100000,0⟩ ⟨3,500000000,0,100000,0⟩⟩
def sellC(i:Nat):Cm:=⟨1,⟨((i+1:Nat):Int),1,2,1,((100+i:Nat):Int),1,0,0⟩,0,0⟩
def sellS(i:Nat):TS:=⟨0,0,[],rowL (i+1),[],P3 ⟨1,500000000,0,100000,((i+1:Nat):Int)⟩ ⟨2,500000000,0,100000,0⟩ ⟨3,500000000,0,100000,0⟩,[⟨1,((i+1:Nat):Int),1,((100+i:Nat):Int),zeroT⟩],[]⟩
theorem sells_do:∀i,i<19→fdo (sellsF i) (sellC i)=.ok (sellS i):=
 all_lt 19 (by
  repeat (first|exact trivial|(unfold allT;refine⟨?_,by kernel_rfl⟩)))
def stopsF(n i:Nat):FS:=⟨0,0,[],rowL (n+1),stW i,P3 ⟨1,500000000,0,100000,((n+1:Nat):Int)⟩ ⟨2,500000000,((10000*i:Nat):Int),100000,0⟩ ⟨3,500000000,0,100000,0⟩⟩
def stopC(i:Nat):Cm:=⟨1,⟨((100+i:Nat):Int),2,1,2,0,1,0,((100+i:Nat):Int)⟩,0,0⟩
def stopS(n i:Nat):TS:=⟨0,0,[],rowL (n+1),stW (i+1),P3 ⟨1,500000000,0,100000,((n+1:Nat):Int)⟩ ⟨2,500000000,((10000*(i+1):Nat):Int),100000,0⟩ ⟨3,500000000,0,100000,0⟩,[⟨5,((100+i:Nat):Int),1,((100+i:Nat):Int),zeroT⟩],[]⟩
theorem stops_do:∀n,n<19→∀i,i<18→fdo (stopsF n i) (stopC i)=.ok (stopS n i):=
 all_lt 19 (by
  repeat (first|exact trivial|(unfold allT;refine⟨?_,all_lt 18 (by repeat (first|exact trivial|(unfold allT;refine⟨?_,by kernel_rfl⟩)))⟩)))
def cntE(w:Int):List Ev→Nat
 | []=>0
 | e::t=>(if e.what=w then 1 else 0)+cntE w t
def finC:Cm:=⟨1,⟨99,3,1,2,0,1,0,0⟩,0,0⟩
noncomputable def finB(n:Nat):Bool:=match fdo (stopsF n n) finC with
 | .ok s=>decide (cntE 4 s.evs=n) && decide (cntE 2 s.evs=n+1) && s.ws.isEmpty && decide (s.last=((100+n:Nat):Int))
 | .error _=>false
theorem fin_do:∀n,n<19→finB n=true:=
 all_lt 19 (by
  repeat (first|exact trivial|(unfold allT;refine⟨?_,by kernel_rfl⟩)))
theorem fin_is{n:Nat}(h:n<19):∃s,fdo (stopsF n n) finC=.ok s∧cntE 4 s.evs=n∧cntE 2 s.evs=n+1∧s.ws=[]∧s.last=((100+n:Nat):Int):=by
 have hf:=fin_do n h
 unfold finB at hf
 cases hx:fdo (stopsF n n) finC with
 | error k=>rw[hx] at hf;cases hf
 | ok s=>
  rw[hx] at hf
  simp only[Bool.and_eq_true,decide_eq_true_eq,List.isEmpty_iff] at hf
  exact⟨s,rfl,hf.1.1.1,hf.1.1.2,hf.1.2,hf.2⟩
end flr
end Go.Proofs.YtifjhlgjgnnnpaaGreat
