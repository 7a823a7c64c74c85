import Derived.Test.YthpcbbnabnlanaaGreatDoorM11
import Derived.Test.YthpcbbnabnlanaaGreatDoorM23
import Derived.Test.YthpcbbnabnlanaaGreatDoorCards
import Derived.Test.YthpcbbnabnlanaaGreatDoorTie
import Derived.WalkKit
import Derived.ProofKit
import Derived.OpenShut
import Derived.Carry
import Derived.Deep.DeepHandedRow
import Derived.Deep.DeepWitnessRowRef
import Derived.Lib.LaidTab
import Derived.Lib.LaidIn
import Derived.Stop.LaidErr
namespace Go.Proofs.YthpcbbnabnlanaaGreatDoor
set_option maxRecDepth 1000000
open Go.Proofs.Tryz
set_option linter.all false
section
open Go.ChangeShapes Go.WideShapes Go.ChangeAt Go.RowKit
theorem ai9:ownKnob prog.godebug=none:=pH
theorem aja:laidOutB prog=true:=pH
def d64:az:=[0,1,56,2,57,49,28,3,61,58,42,50,38,29,17,4,62,47,59,36,45,43,51,22,53,39,33,30,24,18,12,5,63,55,48,27,60,41,37,16,46,35,44,21,52,32,23,11,54,26,40,15,34,20,31,10,25,14,19,9,13,8,7,6]
def d32:az:=[0,1,28,2,29,14,24,3,30,22,20,15,25,17,4,8,31,27,13,23,21,19,16,7,26,12,18,6,11,5,10,9]
def Dy:List (String×DataW Unit):=[("math/bits.deBruijn32tab",Rows.laid_math_bits_deBruijn32tab),("math/bits.deBruijn64tab",Rows.laid_math_bits_deBruijn64tab),("internal/strconv.uint64pow10",Rows.laid_internal_strconv_uint64pow10),("strconv.ErrRange",Rows.laid_strconv_ErrRange),("strconv.ErrSyntax",Rows.laid_strconv_ErrSyntax)]
theorem ajb:prog.globalNamed "internal/strconv.uint64pow10"=some 4:=pH
theorem ajc:(prog.globals[4]?).map (·.type)=some 287:=pH
theorem ajd:prog.cellsOf 159=1:=pH
theorem aje:prog.cellsOf 287=20:=pH
theorem ajf {W:A}(h:laidMet prog Dy W):Sj W:=
 Lib.tabIs_of_head (rest:=[("strconv.ErrRange",Rows.laid_strconv_ErrRange),("strconv.ErrSyntax",Rows.laid_strconv_ErrSyntax)]) ajb ajc underlying287 underlying159 ajd aje (h.tail.tail)
def AZ (P:Program)(os:Os):A:=
 let N:=(World.settled P os).heap.size
 let w0:=World.holding P os ⟨#[.cells #[.string ⟨#[118,97,108,117,101,32,111,117,116,32,111,102,32,114,97,110,103,101]⟩] 294,.cells #[.string ⟨#[105,110,118,97,108,105,100,32,115,121,110,116,97,120]⟩] 294],#[],[]⟩
 let put (h:Array Obj) (g:Nat) (cs:Array aF):Array Obj:=h.modify g fun
  |.cells _ t frozen=>.cells cs t frozen
  |o=>o
 let h0:=put (put w0.heap 2 #[.iface 292 (ai (N+1))]) 3 #[.iface 292 (ai N)]
 let F:=put (put (put h0 0 (d64.map (Value.int .u8)).toArray) 4 (Lib.pow10Tab.map (Value.int .u64)).toArray) 5 (d32.map (Value.int .u8)).toArray
 {w0 with heap:=F}
theorem ajg (os:Os)(args:Array aF):laidMet prog Dy ((AZ prog os).forCall (λ_ _=>0) ⟨#[],args,[]⟩).memory:=
 (LaidIn.of_run [5,0,4,3,(World.settled prog default).heap.size,2,(World.settled prog default).heap.size+1] 10 pH pH pH pH).met
end
section
open Go.ChangeShapes Go.WideShapes Go.ChangeAt Go.RowKit
variable {H:Type}{enc:TypeId×aF->H}{W W':A}
theorem ajh (z:aB W W')(may:MemPlace->Prop):W.keptBut W' may:=by
 refine⟨z.os,z.output,λi hi=> ?_⟩
 rw[z.block i hi pG]
 cases h:W.heap[i]? with
 |none=>simp
 |some o=>
  cases o with
  |cells c t fr=>exact⟨rfl,rfl,rfl,λ_ _=>rfl⟩
  |map es clock=>exact .inr ⟨rfl,rfl⟩
  |_=>rfl
theorem aji (z:aB W W'):Below W.heap.size W W':=⟨z.os,z.tape,z.output,z.size,λk I=>z.block k I pG⟩
theorem ajj (z:aB W W'):∀(ts:List TypeId) (vs:ay) (ds:List (DataW H)) (ps:List MemPlace),(∀t∈ts,prog.readableRec t=true/\t<prog.types.size)->(∀x∈ps,x.block<W.heap.size)->DataW.TrodAll enc prog W 0 (λ_=>true) true ts vs ds ps->DataW.TrodAll enc prog W' 0 (λb=>decide (b<W.heap.size)) true ts vs ds ps:=by
 intro ts
 induction ts with
 |nil=>
  intro vs ds ps _ _ h
  cases vs with
  |nil=>cases ds with
   |nil=>exact h
   |cons _ _=>exact h.elim
  |cons _ _=>exact h.elim
 |cons t ts ih=>
  intro vs ds ps hr ZR h
  cases vs with
  |nil=>exact h.elim
  |cons v vs=>cases ds with
   |nil=>exact h.elim
   |cons d ds=>
    obtain⟨p,q,F,h2,rfl⟩:=h;exact⟨p,q,Below.trod aja (hr t pG).1 (hr t pG).2 F (aji z) (λx hx=>ZR x uY),ih vs ds q (λt' av=>hr t' (by simp[av])) (λx hx=>ZR x uY) h2,rfl⟩
theorem ajk {f:Func}{s:ChangeSpec}{args:Array aF}{ds gs:List (DataW H)}{before:List MemPlace}(hv:s.vars=[])(af:f.resultTypes=#[4])(O:∀t∈f.params.toList,prog.readableRec t=true/\t<prog.types.size)(hW:DataW.Whole enc prog f.params.toList s.vars false W args.toList ds gs before)(aa:s.fn H ds={results:=[.lit (.bool true)],args:=ds})(z:aB W W'):s.post enc prog f false true false false W args (.bool true) W':=by
 have ZR:=hW.lt;have Y:=hW;obtain⟨p,q,hA,hV,rfl,aj,aK⟩:=hW;rw[hv]at hV;obtain⟨rfl,rfl⟩:=trodVars_none hV;have e:s.fn H (ds++[])={results:=[.lit (.bool true)],args:=ds}:=by rw[fp];exact aa
 refine⟨ds,[],p++[],[],p,[],Y,?_,?_,?_,ajh z _,λh=>rN⟩
 ·rw[af,e];exact trodAll_cons_mk (shut_bool underlying4 _) trodAll_mk0
 ·rw[e];exact ajj z _ _ _ _ O (λx hx=>ZR x uY) hA
 ·rw[e,hv];exact rfl
end
section
open Go.ChangeShapes Go.WideShapes Go.ChangeAt Go.RowKit
theorem g64:prog.globalNamed "math/bits.deBruijn64tab"=some 0:=pH
theorem ajl:(prog.globals[0]?).map (·.type)=some 265:=pH
theorem ajm:prog.cellsOf 5=1:=pH
theorem ajn:prog.cellsOf 265=64:=pH
theorem ajo:prog.underlying 265=some (.array 64 5):=pH
theorem ajp:Dz=d64:=pF
theorem ajq {W:A}(h:laidMet prog Dy W):VP W:=by
 unfold VP;rw[ajp];exact Lib.tabIs_of_head (rest:=[("internal/strconv.uint64pow10",Rows.laid_internal_strconv_uint64pow10),("strconv.ErrRange",Rows.laid_strconv_ErrRange),("strconv.ErrSyntax",Rows.laid_strconv_ErrSyntax)]) g64 ajl ajo underlying5 ajm ajn h.tail
end
end Go.Proofs.YthpcbbnabnlanaaGreatDoor
