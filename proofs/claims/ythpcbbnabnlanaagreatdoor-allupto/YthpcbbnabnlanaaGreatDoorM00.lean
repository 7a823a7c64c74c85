import Derived.WalkKit
namespace Go.Proofs.YthpcbbnabnlanaaGreatDoor
open Go.RowKit
set_option linter.all false
abbrev Y (x:Int):Value:=.int .i64 x
abbrev af:Value:=.slice none 0 0
abbrev O (x y:Nat):Addr:=⟨x,y,none⟩
abbrev ah (x:Nat):Addr:=⟨x,0,none⟩
abbrev ai (x:Nat):Value:=.pointer (some ⟨x,0,none⟩)
abbrev aj (g n c:Nat):Value:=.slice (some ⟨g,0,none⟩) n c
abbrev ak (w:World)(x y:Nat)(v:Value):Prop:=w.cell? ⟨x,y,none⟩=some v
abbrev au (w:World)(v:Value):Ending->World->Prop:=λe w'=>e=.returned v/\w.grownBy w' none
abbrev ax:=Option Addr
abbrev ay:=List Value
abbrev az:=List Int
abbrev aA:=ByteArray
abbrev aB (w w':World):Prop:=w.grownBy w' none
abbrev aC (w:World)(x y:Nat)(v:Value):World:=w.setCell ⟨x,y,none⟩ v
abbrev A:=World
abbrev aF:=Value
abbrev aG:=@List.findIdx?_eq_some_iff_getElem
abbrev aH:=@Nat.exists_testBit_of_ne_zero
abbrev aI:=@Array.getElem?_setIfInBounds
abbrev aJ:=@List.attach_map_subtype_val
abbrev aK:=@Nat.testBit_two_pow_mul_add
abbrev aL:=@Nat.testBit_two_pow_sub_one
abbrev aM:=@Array.getElem?_eq_some_iff
abbrev aN:=@List.getD_eq_getElem?_getD
abbrev aO:=@List.getElem?_append_right
abbrev aP:=@Array.getElem?_eq_getElem
abbrev aQ:=@Classical.byContradiction
abbrev aR:=@List.drop_eq_getElem_cons
abbrev aS:=@List.findIdx?_eq_none_iff
abbrev aT:=@List.getElem?_append_left
abbrev aU:=@List.getElem?_eq_some_iff
abbrev aV:=@List.mem_take_iff_getElem
abbrev aW:=@List.pairwise_iff_getElem
abbrev aX:=@World.cell?_setCell_other
abbrev aY:=@Array.size_setIfInBounds
abbrev aZ:=@List.getElem?_eq_getElem
abbrev bA:=@List.length_eq_zero_iff
abbrev bB:=@Nat.add_sub_cancel_left
abbrev bC:=@decide_eq_false_iff_not
abbrev bD:=@Array.getElem?_eq_none
abbrev bE:=@List.drop_eq_nil_of_le
abbrev bF:=@List.drop_of_length_le
abbrev bG:=@List.getElem?_set_self
abbrev bH:=@List.take_of_length_le
abbrev bI:=@Nat.div_div_eq_div_mul
abbrev bJ:=@Nat.testBit_lt_two_pow
abbrev bK:=@Option.map_eq_some_iff
abbrev bL:=@World.frozen?_of_block
abbrev bM:=@Array.getElem?_modify
abbrev bN:=@List.getElem?_eq_none
abbrev bO:=@List.getElem?_toArray
abbrev bP:=@List.length_singleton
abbrev bQ:=@List.set_append_right
abbrev bR:=@World.frozen?_setCell
abbrev bS:=@Array.replicate_succ
abbrev bT:=@Array.replicate_zero
abbrev bU:=@Array.toArray_toList
abbrev bV:=@BitVec.ofInt_natCast
abbrev bW:=@BitVec.testBit_toNat
abbrev bX:=@Bool.or_eq_false_iff
abbrev bY:=@List.getElem?_append
abbrev bZ:=@List.getElem?_set_ne
abbrev bh:=@List.getElem?_take_of_lt
abbrev bj:=@Option.isSome_iff_exists
abbrev bk:=@UInt8.toNat_ofNat_of_lt'
abbrev bo:=@World.cell?_setCell_same
abbrev bz:=@List.getElem?_replicate
abbrev cB:=@List.pairwise_append
abbrev cC:=@List.range_eq_range'
abbrev cF:=@List.replicate_succ'
abbrev cG:=@Nat.eq_of_testBit_eq
abbrev cH:=@Nat.pow_le_pow_right
abbrev cI:=@Nat.pow_lt_pow_right
abbrev cJ:=@World.cell?_of_block
abbrev cK:=@Array.getElem?_push
abbrev cO:=@Array.length_toList
abbrev cP:=@ByteArray.toList_eq
abbrev cQ:=@List.append_toArray
abbrev cT:=@List.dropWhile_cons
abbrev cU:=@List.flatMap_append
abbrev cV:=@List.getD_cons_succ
abbrev cW:=@List.getD_cons_zero
abbrev cX:=@List.getElem_of_mem
abbrev cY:=@List.length_take_le
abbrev cZ:=@List.map_congr_left
abbrev cj:=@List.mem_iff_getElem
abbrev cq:=@List.mem_of_getElem?
abbrev cx:=@List.mem_of_mem_drop
abbrev cy:=@List.mem_of_mem_take
abbrev dA:=@List.length_append
abbrev dB:=@List.map_replicate
abbrev dC:=@List.mem_cons_self
abbrev dD:=@List.pairwise_cons
abbrev dF:=@List.set_cons_succ
abbrev dG:=@Nat.add_right_comm
abbrev dH:=@Nat.lt_of_lt_of_le
abbrev dI:=@of_decide_eq_false
abbrev dJ:=@Int.toNat_natCast
abbrev dK:=@List.Pairwise.nil
abbrev dM:=@List.all_eq_false
abbrev dN:=@List.append_assoc
abbrev dO:=@List.flatMap_cons
abbrev dQ:=@List.foldr_append
abbrev dR:=@List.getElem?_map
abbrev dS:=@List.getElem?_set
abbrev dT:=@List.mem_range'_1
abbrev dU:=@List.pairwise_map
abbrev dV:=@List.push_toArray
abbrev dW:=@List.size_toArray
abbrev dX:=@List.take_add_one
abbrev dY:=@Option.some.injEq
abbrev dZ:=@Result.andThen_ok
abbrev df:=@List.take_set_of_le
abbrev dh:=@Nat.testBit_two_pow
abbrev di:=@World.grownBy_alloc
abbrev dm:=@World.ownsRow.cells
abbrev dn:=@beq_eq_false_iff_ne
abbrev dp:=@Array.ext_getElem?
abbrev dr:=@Below.heap_setCell
abbrev dt:=@BitVec.toNat_ofNat
abbrev dv:=@Bool.false_eq_true
abbrev dw:=@Int.natCast_nonneg
abbrev dx:=@List.filter_append
abbrev dy:=@List.getElem?_drop
abbrev dz:=@List.getElem?_take
abbrev eC:=@Bool.and_eq_true
abbrev eD:=@IntKind.wrap_u64
abbrev eE:=@List.all_eq_true
abbrev eF:=@List.any_eq_true
abbrev eG:=@List.cons_append
abbrev eH:=@List.countP_cons
abbrev eJ:=@List.ext_getElem
abbrev eK:=@List.filter_cons
abbrev eL:=@List.getElem_mem
abbrev eM:=@List.length_cons
abbrev eO:=@List.length_drop
abbrev eP:=@List.length_take
abbrev eQ:=@List.not_mem_nil
abbrev eT:=@Nat.lt_succ_self
abbrev eU:=@Nat.mod_eq_of_lt
abbrev eW:=@Nat.zero_testBit
abbrev eX:=@Option.bind_some
abbrev eY:=@Option.getD_some
abbrev eZ:=@bits_and_u64_nat
abbrev ed:=@World.ownsRow_nil
abbrev ee:=@decide_eq_true_eq
abbrev eo:=@heap_setCell_same
abbrev ew:=@of_decide_eq_true
abbrev ey:=@wpList_append_own
abbrev ez:=@Array.toList_inj
abbrev fB:=@List.length_nil
abbrev fC:=@List.length_set
abbrev fD:=@List.map_append
abbrev fE:=@List.mem_append
abbrev fF:=@List.nil_append
abbrev fG:=@Nat.div_add_mod
abbrev fH:=@Nat.min_eq_left
abbrev fI:=@Nat.not_lt_zero
abbrev fJ:=@Nat.testBit_and
abbrev fK:=@Nat.two_pow_pos
abbrev fL:=@Oper.semAt_some
abbrev fM:=@Oper.upon_value
abbrev fN:=@Option.map_some
abbrev fO:=@Option.some.inj
abbrev fP:=@UInt8.toNat_inj
abbrev fQ:=@decide_eq_false
abbrev fR:=@heap_alloc2_new
abbrev fS:=@heap_alloc2_old
abbrev fT:=@wpList_load_row
abbrev fU:=@DataW.trod_int
abbrev fV:=@Int.mul_nonneg
abbrev fW:=@List.drop_zero
abbrev fX:=@List.mem_range
abbrev fY:=@List.nodup_nil
abbrev fZ:=@List.tail_drop
abbrev fe:=@decide_eq_decide
abbrev fg:=@results_cell_row
abbrev fh:=@wpList_store_row
abbrev fj:=@Bool.eq_iff_iff
abbrev fk:=@Bool.or_eq_true
abbrev fo:=@List.all_append
abbrev fp:=@List.append_nil
abbrev fq:=@List.cons.injEq
abbrev ft:=@List.foldl_cons
abbrev fx:=@List.foldr_cons
abbrev fy:=@List.length_map
abbrev gB:=@AllReady.cons
abbrev gC:=@Bool.or_false
abbrev gD:=@Bool.true_and
abbrev gF:=@ByteArray.ext
abbrev gG:=@List.map_cons
abbrev gH:=@List.mem_cons
abbrev gI:=@Nat.add_assoc
abbrev gJ:=@Nat.mul_assoc
abbrev gK:=@Prod.mk.injEq
abbrev gM:=@wp_region_any
abbrev gN:=@AllReady.nil
abbrev gO:=@Bool.or_true
abbrev gQ:=@List.map_map
abbrev gR:=@List.map_nil
abbrev gT:=@List.map_set
abbrev gU:=@List.mem_map
abbrev gX:=@Nat.add_zero
abbrev gY:=@Nat.le_of_lt
abbrev gZ:=@Nat.le_trans
abbrev gh:=@Nat.testBit_or
abbrev gj:=@decide_eq_true
abbrev gp:=@heap_alloc_new
abbrev gq:=@heap_alloc_old
abbrev gy:=@size_madeCells
abbrev iA:=@setRow_heap
abbrev iB:=@wpAny_ready
abbrev iC:=@Below.refl
abbrev iD:=@beq_iff_eq
abbrev iE:=@info_parts
abbrev iF:=@wpAny_done
abbrev iG:=@And.intro
abbrev iH:=@eq_of_beq
abbrev iI:=@and_true
abbrev iJ:=@congrArg
abbrev iK:=@if_false
abbrev iM:=@or_false
abbrev iO:=@Ne.symm
abbrev iP:=@if_true
abbrev iQ:=@if_neg
abbrev iR:=@if_pos
abbrev ib:=@Nat.lt_or_ge
abbrev ig:=@Nat.pow_succ
abbrev ij:=@Nat.sub_self
abbrev ik:=@Nat.zero_add
abbrev il:=@Sem.run_bind
abbrev iq:=@bodyPost_ret
abbrev ir:=@callsIn_wide
abbrev iu:=@results_none
abbrev iv:=@Int.le_refl
abbrev iw:=@Nat.le_refl
abbrev ix:=@Nat.le_succ
abbrev iy:=@Nat.mul_one
abbrev iz:=@Nat.zero_le
variable {P:Prop}
def p6 (h:P:=by rw[eS,dn];exact L5 _ _ _ (by decide)):P:=h
def p7 (h:P:=by simpa using iO bq):P:=h
def p8 (h:P:=by rfl):P:=h
def p9 (h:P:=by have:=YH.2;rw[bs]at this;simp only at this;omega):P:=h
def J (h:P:=by omega):P:=h
def pF (h:P:=by decide):P:=h
def pG (h:P:=by simp):P:=h
def pH (h:P:=by kernel_rfl):P:=h
def pI (h:P:=by simp;omega):P:=h
def pJ (h:P:=by rw[TF,s1];simp[Yx,W9,WJ,XQ,Wa,Xo,VB,Vh,VA,VU,WN,Vg,VT,Vz,VN,VM,VL,VK,Vy,VJ,VI,Y3,WZ,Wz,Wy,XF,Zg,Wx,Vx,Wj,WY,WM,WX]):P:=h
def pK (h:P:=by unfold maxLen;omega):P:=h
def pL (h:P:=by cases e):P:=h
def pM (h:P:=by rw[I];rfl):P:=h
def pN (h:P:=by rw[s0];simp[Yx,W9,WJ,XQ,Wa,Xo,VB,Vh,VA,VU,WN,Vg,VT,Vz,VN,VM,VL,VK,Vy,VJ,VI,Y3,WZ,Wz,Wy,XF,Zg,Wx,Vx,Wj,WY,WM,WX]at k0⊢;exact k0):P:=h
def pO (h:P:=by rw[s8];simp[Yx,W9,WJ,XQ,Wa,Xo,VB,Vh,VA,VU,WN,Vg,VT,Vz,VN,VM,VL,VK,Vy,VJ,VI,Y3,WZ,Wz,Wy,XF,Zg,Wx,Vx,Wj,WY,WM,WX]at k0⊢;exact k0):P:=h
def pP (h:P:=by have q:=h.cell 0 _ rfl;rw[h0]at q;exact q):P:=h
def pQ (h:P:=by go_num):P:=h
def pR (h:P:=by rw[TF,s7];simp[Yx,W9,WJ,XQ,Wa,Xo,VB,Vh,VA,VU,WN,Vg,VT,Vz,VN,VM,VL,VK,Vy,VJ,VI,Y3,WZ,Wz,Wy,XF,Zg,Wx,Vx,Wj,WY,WM,WX]):P:=h
def pS (h:P:=by rw[TF,s9];simp[Yx,W9,WJ,XQ,Wa,Xo,VB,Vh,VA,VU,WN,Vg,VT,Vz,VN,VM,VL,VK,Vy,VJ,VI,Y3,WZ,Wz,Wy,XF,Zg,Wx,Vx,Wj,WY,WM,WX]):P:=h
def pT (h:P:=by have:=cd.out;omega):P:=h
def pU (h:P:=by simpa using WL):P:=h
def pV (h:P:=by simp[World.setCell]):P:=h
def pW (h:P:=by simpa using F):P:=h
def pX (h:P:=by simpa using h):P:=h
def pY (h:P:=by have:=Hb (Y2 x.c);rw[e]at this;exact bA.1 this.symm):P:=h
def pZ (h:P:=by simp at h):P:=h
def q8 (h:P:=by rw[bt];exact Ur hE rfl Ro):P:=h
def qA (h:P:=by cases hx):P:=h
def qB (h:P:=by have:=H0.out.V8;omega):P:=h
def qC (h:P:=by rw[bf];exact Ur hE rfl XB):P:=h
def qD (h:P:=by rw[<-Yi.out];exact(Qf _ _ _ VS (by simp[YC,Vp,Zk];omega)).symm):P:=h
def qE (h:P:=by simpa using q):P:=h
def qF (h:P:=by have:=H0.out.lr;omega):P:=h
def qG (h:P:=by have:k=X.b:=(by injection e);rw[this];exact Rn):P:=h
def qH (h:P:=by simp[YC,Vp,Zk];omega):P:=h
def qI (h:P:=by cases e;rfl):P:=h
def qJ (h:P:=by cases e:x.c.ZA with|nil=>exact absurd e (ar.Ky hs)|cons _ _=>simp):P:=h
def qK (h:P:=by have:=Pv.out;omega):P:=h
def qL (h:P:=by cases e:x.c.vars with|nil=>exact absurd e (ar.Pu h0)|cons _ _=>simp):P:=h
def qM (h:P:=by cases e:x.c.lits with|nil=>exact absurd e (ar.Ha h0)|cons _ _=>simp):P:=h
def qN (h:P:=by simpa using h3):P:=h
def qO (h:P:=by rw[Hid,<-YO.out];exact(adu TZ bg).symm):P:=h
def qQ (h:P:=by simpa using iO Pt):P:=h
def qR (h:P:=by rw[cO];rfl):P:=h
def qT (h:P:=by simpa using c):P:=h
def qU (h:P:=by have:=Yo.size;simp at this;omega):P:=h
def qV (h:P:=by simp[Ug,e]):P:=h
def qW (h:P:=by unfold Hid;rw[TF];exact SM):P:=h
def qX (h:P:=by have:=av.size;simpa using this):P:=h
def qY (h:P:=by simp[Lib.byteCells,Lib.strCells_length];omega):P:=h
def qZ (h:P:=by rw[YH];exact Ur hE rfl YS):P:=h
def qa (h:P:=by rw[e];exact Rn):P:=h
def qb (h:P:=by simpa using h0):P:=h
def qc (h:P:=by have:=s1.lo;omega):P:=h
def qd (h:P:=by rw[<-Yi.out];exact(Kw _ _ _ (by omega)).symm):P:=h
def qf (h:P:=by rw[aa];exact Ur hE rfl hi):P:=h
def qh (h:P:=by show S.1+1<=_;omega):P:=h
def qi (h:P:=by rw[<-Yi.out];exact(OS _ _ _ (by simp[YC,Vp,Zk];omega)).symm):P:=h
def qj (h:P:=by have:=hs.ll;have:=hv.1;have:=hv.2;omega):P:=h
def qm (h:P:=by unfold W4 YL.bare;simp[e]):P:=h
def qo (h:P:=by have:=br.size;simp[World.setCell];omega):P:=h
def qq (h:P:=by simp[Lib.byteCells];omega):P:=h
def qs (h:P:=by intro u hu;simp at hu;subst hu;rfl):P:=h
def qu (h:P:=by have q:=h.cell 2 _ rfl;rw[hT.is]at q;exact q):P:=h
def qw (h:P:=by obtain⟨anZ,hz⟩:=Su.b1;rw[ES];exact hz.there):P:=h
def qx (h:P:=by rw[Hid,hl];simp only[cg.out,cr.out];simp[Uf]):P:=h
def qy (h:P:=by simpa using hc):P:=h
def qz (h:P:=by simpa using I):P:=h
def rB (h:P:=by simp[hu]):P:=h
def rC (h:P:=by have:=hv.1;have:=hv.2;omega):P:=h
def rD (h:P:=by rw[hW];exact WC.new w hc.len):P:=h
def rE (h:P:=by exact adv _ _ _ _ (by simp)):P:=h
def rF (h:P:=by have:=xE.gr.size;omega):P:=h
def rG (h:P:=by have:=L4.out;have:=cY (i+0) (Y2 x.c);rw[eP];omega):P:=h
def rH (h:P:=by rw[hd.is];have q:=(bc.OQ hv).1;rw[dJ]at q;exact q):P:=h
def rI (h:P:=by have:=VR.2;rw[bb]at this;simp[Zk]at this;omega):P:=h
def rJ (h:P:=by unfold Ss.head;rw[Tb];rfl):P:=h
def rK (h:P:=by simpa using hx):P:=h
def rL (h:P:=by unfold Hid Y' Wi;rw[SJ.2.2.2.1];exact⟨rfl,rfl⟩):P:=h
def rM (h:P:=by simpa using hl):P:=h
def rN (h:P:=by cases h):P:=h
def rO (h:P:=by simpa using hi):P:=h
def rP (h:P:=by have:g=X.b:=(by injection e);rw[this];exact Rn):P:=h
def rQ (h:P:=by rw[cw];decide):P:=h
def rR (h:P:=by rw[aN,hD.c];rfl):P:=h
def rS (h:P:=by have:=G' D i;simpa using this):P:=h
def rT (h:P:=by rw[hW];exact di _ _ _):P:=h
def rU (h:P:=by injection e):P:=h
def rV (h:P:=by simpa using ZO.1):P:=h
def rW (h:P:=by rw[b8];exact Ur hE rfl cf):P:=h
def rX (h:P:=by have:=h.hB;have:=g0.size;omega):P:=h
def rY (h:P:=by rw[adw];omega):P:=h
def rZ (h:P:=by rw[Sr];omega):P:=h
def rf (h:P:=by rw[b6];exact Ur hE rfl ck):P:=h
def rh (h:P:=by have:=ZU.size;omega):P:=h
def rj (h:P:=by rw[<-Yi.out];exact(OS _ _ _ (by simp[Zk];omega)).symm):P:=h
def rp (h:P:=by rw[ZO.cellAt i (by omega)];simp[a8,ZR]):P:=h
def rq (h:P:=by unfold TE G9;simp):P:=h
def rr (h:P:=by simpa using λe:Z=bm=>h.Uq e.symm):P:=h
def ru (h:P:=by have:(10:Nat) ^ (10+1)=100000000000:=(by decide);omega):P:=h
def rv (h:P:=by simpa using h2):P:=h
def ry (h:P:=by simpa using c1):P:=h
def sA (h:P:=by rw[L3.out];exact hj):P:=h
def sB (h:P:=by unfold Hid Y' Wi;rw[a4];exact⟨rfl,rfl⟩):P:=h
def sD (h:P:=by have:=hs.ll;have:=bl.1;have:=bl.2;omega):P:=h
def sF (h:P:=by rw[Hid,<-YO.out,bF (iw _)];rfl):P:=h
def sG (h:P:=by have:=HG.out;have:=he.out;omega):P:=h
def sH (h:P:=by rw[<-YO.out];exact adx _ _ _ _ _ (iw _)):P:=h
def sI (h:P:=by rw[cm];simpa using a2):P:=h
def sJ (h:P:=by rw[aZ hi,he]):P:=h
def sK (h:P:=by rw[eP];omega):P:=h
def sL (h:P:=by rw[<-YO.out];exact(ady ZR Yc).symm):P:=h
def sM (h:P:=by simpa using Uf):P:=h
def sN (h:P:=by rw[Sq];rfl):P:=h
def sO (h:P:=by rw[<-L0];exact World.news_of_block (gp _ _)):P:=h
def sP (h:P:=by rw[<-M8];exact World.news_of_block (gp _ _)):P:=h
def sQ (h:P:=by have:=hv.2;omega):P:=h
def sR (h:P:=by rw[<-Yb];simp;omega):P:=h
def sS (h:P:=by rw[<-YO.out];exact(adz ZR aw).symm):P:=h
def sT (h:P:=by show w.heap.size+1≠w.heap.size+2;omega):P:=h
def sU (h:P:=by show w.heap.size+2≠w.heap.size+1;omega):P:=h
def sV (h:P:=by rw[ht];exact gU.2 ⟨p,hp,rfl⟩):P:=h
def sW (h:P:=by have:=b9.size;simp[World.setCell];omega):P:=h
def sX (h:P:=by rw[Hid,a6];rfl):P:=h
def sY (h:P:=by rw[ba];exact e):P:=h
def sZ (h:P:=by rw[<-YO.out];exact(adA ZR XP).symm):P:=h
def se (h:P:=by unfold Hid Y' Wi;rw[SJ.1];exact⟨rfl,rfl⟩):P:=h
def sk (h:P:=by simp[F]):P:=h
def sq (h:P:=by simpa using ht):P:=h
def sr (h:P:=by trivial):P:=h
def su (h:P:=by rw[Hid,<-YO.out];exact(adB cn bg).symm):P:=h
def sw (h:P:=by have q:=h.cell 8 _ rfl;rw[hT.is]at q;exact q):P:=h
def sx (h:P:=by have q:=h.cell 9 _ rfl;rw[hT.is]at q;exact q):P:=h
def sy (h:P:=by have:=hN.ok.ll;have:=hv.1;have:=hv.2;omega):P:=h
def tA (h:P:=by rw[<-Yb];simpa using Yc):P:=h
def tB (h:P:=by simp[hc]):P:=h
def tC (h:P:=by rw[hR];exact N7.out):P:=h
def tD (h:P:=by have:=H0.out.hB;have:=a7.out.size;omega):P:=h
def tF (h:P:=by show(Vw U _).1.length<=3000;omega):P:=h
def tG (h:P:=by rw[Hid,hl];simp only[cg.out];simp[Uf]):P:=h
def tH (h:P:=by show w.heap.size+1≠w.heap.size;omega):P:=h
def tI (h:P:=by show w.heap.size≠w.heap.size+1;omega):P:=h
def tJ (h:P:=by rw[hs.ll];exact bl):P:=h
def tK (h:P:=by rw[strCells_length];omega):P:=h
def tL (h:P:=by intro q;rw[q]at bp;simp at bp;omega):P:=h
def tM (h:P:=by rw[<-M8];exact Pr.lw.hB):P:=h
def tN (h:P:=by rw[hb];rfl):P:=h
def tO (h:P:=by rw[q1];rfl):P:=h
def tP (h:P:=by simpa using Yu):P:=h
def tQ (h:P:=by have:=bu.len;rw[N6.out];exact this):P:=h
def tR (h:P:=by have:=G' E i;simpa using this):P:=h
def tS (h:P:=by simp[ha]):P:=h
def tT (h:P:=by have:=x1.gr.size;omega):P:=h
def tU (h:P:=by simpa[Vf,e]using hz):P:=h
def tV (h:P:=by rw[Hid,<-Yn.out];simp only[I];rfl):P:=h
def tW (h:P:=by simp at ht):P:=h
def tX (h:P:=by have:=ZZ.size;simp at this;omega):P:=h
def tY (h:P:=by rw[b5.2];rfl):P:=h
def tZ (h:P:=by simpa using hb):P:=h
def td (h:P:=by simpa using ha):P:=h
def th (h:P:=by simpa using c2):P:=h
def tj (h:P:=by simpa using hz):P:=h
def tq (h:P:=by obtain⟨m,e,hm,I⟩:=G8 h0 F;exact I):P:=h
def tu (h:P:=by unfold Hid;rw[<-hF.out];simp[XO,he]):P:=h
def tv (h:P:=by unfold XZ;simp only[h0];simpa using c):P:=h
def tz (h:P:=by rw[Pq (by omega) (by omega)];omega):P:=h
def uA (h:P:=by simpa[Y3]using h):P:=h
def uB (h:P:=by rw[hR];exact Kv.out):P:=h
def uC (h:P:=by simp at ha):P:=h
def uD (h:P:=by rw[<-h.ll];exact hi):P:=h
def uE (h:P:=by simp[Zk];omega):P:=h
def uF (h:P:=by rw[Hid,b7.out];simp):P:=h
def uG (h:P:=by simp[Vv,h3]):P:=h
def uH (h:P:=by simpa using hn):P:=h
def uI (h:P:=by simpa using b2):P:=h
def uJ (h:P:=by have:=h.hB;omega):P:=h
def uK (h:P:=by unfold maxLen;simp):P:=h
def uL (h:P:=by simpa using cz.out):P:=h
def uM (h:P:=by rw[<-hT];exact F):P:=h
def uN (h:P:=by show _<256;omega):P:=h
def uO (h:P:=by simp[LD.cells,hx]):P:=h
def uP (h:P:=by rw[<-hA];rfl):P:=h
def uQ (h:P:=by rw[<-e];exact hm):P:=h
def uR (h:P:=by rw[c];rfl):P:=h
def uS (h:P:=by simp at I;omega):P:=h
def uT (h:P:=by show g<_;omega):P:=h
def uU (h:P:=by simpa using TD):P:=h
def uV (h:P:=by rw[ER];rfl):P:=h
def uW (h:P:=by simpa using ho.1):P:=h
def uX (h:P:=by simpa using V7):P:=h
def uY (h:P:=by simp[hx]):P:=h
def uZ (h:P:=by rw[F];rfl):P:=h
def ub (h:P:=by simpa using hu):P:=h
def ud (h:P:=by simp[QZ,e]):P:=h
def ue (h:P:=by simp at hx):P:=h
def uf (h:P:=by simpa[Vf,M7,I,hN]using hz):P:=h
def ug (h:P:=by rw[<-hs.ml];exact(G7 e).1):P:=h
def uh (h:P:=by rw[Hid,<-Yn.out];simp only[I,iP]):P:=h
def ui (h:P:=by rw[HT.out,<-he.out,iQ N5];simp[*]):P:=h
def uj (h:P:=by rw[dW];exact OP):P:=h
def uk (h:P:=by rw[dW];exact RX):P:=h
def uo (h:P:=by have:=ZJ.size;omega):P:=h
def uq (h:P:=by rw[TL.out];omega):P:=h
def ur (h:P:=by rw[Ku.out];omega):P:=h
def uu (h:P:=by simpa using h.ne.symm):P:=h
def uw (h:P:=by have:=h.own.1;omega):P:=h
def ux (h:P:=by simpa using ZP):P:=h
def uy (h:P:=by rw[Hid,hR];rfl):P:=h
def uz (h:P:=by simpa using bn):P:=h
def vd (h:P:=by rw[e];simp):P:=h
def ve (h:P:=by cases hr):P:=h
def vh (h:P:=by cases I):P:=h
def vq (h:P:=by rw[hR.ml]):P:=h
def vx (h:P:=by simp at e):P:=h
def vy (h:P:=by simp[hj]):P:=h
end Go.Proofs.YthpcbbnabnlanaaGreatDoor
