import Derived.Test.YthpcbbnabnlanaaGreatDoorM02
import Derived.Test.YthpcbbnabnlanaaGreatDoorM14
import Derived.Deep.AppendLies
namespace Go.Proofs.YthpcbbnabnlanaaGreatDoor
set_option maxHeartbeats 1000000
set_option maxRecDepth 100000
open Go.Proofs.Tryz
set_option linter.all false
section
open Go.RowKit
def bs (l:List UInt8):aA:=⟨l.toArray⟩
theorem TF (l:List UInt8):(bs l).toList=l:=by rw[cP];simp[bs]
theorem RJ (s:aA)(l:List UInt8)(h:s.toList=l):s=bs l:=by
 rw[cP]at h;unfold bs;rw[<-h,bU]
def XF:List UInt8:=[109,111,100,101,108]
def Wj:List UInt8:=[115,116,97,116,101,109,101,110,116]
def WZ:List UInt8:=[105,110,116,115]
def Wx:List UInt8:=[110,97,109,101,115]
def Wy:List UInt8:=[108,105,116,115]
def Wz:List UInt8:=[108,105,116]
def WY:List UInt8:=[115,117,109]
def WX:List UInt8:=[116,101,114,109,115]
def WM:List UInt8:=[116,101,114,109]
def Vx:List UInt8:=[114,101,108]
def Zg:List UInt8:=[78,65,77,69]
def Y3:List UInt8:=[73,78,84]
def VJ:List UInt8:=[118,97,114]
def VK:List UInt8:=[108,105,115,116]
def VL:List UInt8:=[108,105,110]
def VI:List UInt8:=[119,104,101,110]
def VN:List UInt8:=[97,116]
def VM:List UInt8:=[100,105,102,102]
def Vy:List UInt8:=[111,114]
def VT:List UInt8:=[59]
def WJ:List UInt8:=[58]
def XQ:List UInt8:=[44]
def Xo:List UInt8:=[61]
def VA:List UInt8:=[33,61]
def VB:List UInt8:=[60,61]
def Wa:List UInt8:=[46,46]
def WN:List UInt8:=[91]
def W9:List UInt8:=[93]
def Vg:List UInt8:=[43]
def Vz:List UInt8:=[42]
def VU:List UInt8:=[33]
def Vh:List UInt8:=[45]
def Yx (ZH:List UInt8)(kind:Int)(ts:List UInt8):Option (List (List UInt8)):=
 if ZH=XF then some (if kind=107 then[Wj,VT,XF]else[])
 else if ZH=Wj then some (
  if ts=VJ then[VJ,Zg,WJ,Y3,Wa,Y3]
  else if ts=VK then[VK,Zg,Xo,WN,Y3,WZ,W9]
  else if ts=VL then[VL,WY,Y3]
  else if ts=VI then[VI,Zg,WJ,WY,Y3]
  else if ts=VN then[VN,Zg,WN,Zg,W9,Xo,Zg]
  else if ts=VM then[VM,Zg,Wx]
  else[Vy,Wz,Wy])
 else if ZH=WZ then some (if ts=XQ then[XQ,Y3,WZ]else[])
 else if ZH=Wx then some (if ts=XQ then[XQ,Zg,Wx]else[])
 else if ZH=Wy then some (if ts=XQ then[XQ,Wz,Wy]else[])
 else if ZH=Wz then some (if ts=VU then[VU,Zg]else[Zg])
 else if ZH=WY then some [WM,WX]
 else if ZH=WX then some (if ts=Vg\/ts=Vh then[ts,WM,WX]else[Vx])
 else if ZH=WM then some (if kind=105 then[Y3,Vz,Zg]else[Zg])
 else if ZH=Vx then some (if ts=VA\/ts=VB then[ts]else[Xo])
 else none
theorem BI {w:A}{base:Nat}{e:TypeId}(cs:Array aF)(hb:base<=w.heap.size)(hm:cs.size<=maxLen):(w.alloc (.cells cs e)).ownsRow base e 1 (aj w.heap.size cs.size cs.size) cs.size cs.toList:=by
 refine⟨pG,.inr ⟨w.heap.size,cs.size,cs,rfl,hb,gp w _,iw _,hm,pG,?_⟩⟩;rw[iy,bH pG]
def strCells (l:List (List UInt8)):ay:=l.map λb=>.string (bs b)
theorem afP {w:A}{e:TypeId}(o1 o2:Obj)(cs:Array aF)(hm:cs.size<=maxLen):(((w.alloc o1).alloc o2).alloc (.cells cs e)).ownsRow w.heap.size e 1 (.slice (some (ah (w.heap.size+1+1))) cs.size cs.size) cs.size cs.toList:=by
 have h:=BI (w:=(w.alloc o1).alloc o2) (base:=w.heap.size) (e:=e) cs pI hm;simpa using h
theorem afQ {w:A}{e:TypeId}(o1:Obj):((w.alloc o1).alloc (.cells #[] e)).ownsRow w.heap.size e 1 (.slice (some (ah (w.heap.size+1))) 0 0) 0 []:=by
 have h:=BI (w:=w.alloc o1) (base:=w.heap.size) (e:=e) #[] pG uK;simpa using h
theorem BH (w:A)(o1 o2:Obj):Below w.heap.size w ((w.alloc o1).alloc o2):=((iC _ _).alloc (iw _) _).alloc pG _
theorem afR (w:A)(o1 o2 o3:Obj):Below w.heap.size w (((w.alloc o1).alloc o2).alloc o3):=(BH w o1 o2).alloc pI _
def UO (w:A)(L:List (List UInt8))(e:Ending)(w':A):Prop:=
 ∃g,e=.returned (.tuple #[aj g L.length L.length,.bool true])/\w'.ownsRow w.heap.size 9 1 (aj g L.length L.length) L.length (strCells L)/\Below w.heap.size w w'
theorem TW {a b:List UInt8}(h:¬a=b):(a==b)=false:=pX
def jn{P:Prop}(h:P:=by
 go_enter func94,ntmps94;go_wp2
 go_ret2
 exact⟨_,rfl,afP _ _ _ uK,afR _ _ _ _⟩):P:=h
theorem afS (ZH:aA)(aa:ZH.toList=[109,111,100,101,108])(ts:aA)(kind line:Int)(h0:(kind==107)=true)(w:A):aq 94 #[.string ZH,.agg #[.string ts,.int .u8 kind,Y line]] w λe w'=>UO w [Wj,VT,XF] e w':=by
 exact jn
def kL{P:Prop}(h:P:=by
 go_enter func94,ntmps94;go_wp2
 go_ret2
 exact⟨_,rfl,afQ _,BH _ _ _⟩):P:=h
theorem afT (ZH:aA)(aa:ZH.toList=[109,111,100,101,108])(ts:aA)(kind line:Int)(h0:(kind==107)=false)(w:A):aq 94 #[.string ZH,.agg #[.string ts,.int .u8 kind,Y line]] w λe w'=>UO w [] e w':=by
 exact kL
theorem afU (ZH:aA)(aa:ZH.toList=[115,116,97,116,101,109,101,110,116])(kind line:Int)(w:A):aq 94 #[.string ZH,.agg #[.string (bs [118,97,114]),.int .u8 kind,Y line]] w λe w'=>UO w [VJ,Zg,WJ,Y3,Wa,Y3] e w':=by
 have Xm:(bs [118,97,114]).toList=[118,97,114]:=TF _;exact jn
theorem afV (ZH:aA)(aa:ZH.toList=[115,116,97,116,101,109,101,110,116])(kind line:Int)(w:A):aq 94 #[.string ZH,.agg #[.string (bs [108,105,115,116]),.int .u8 kind,Y line]] w λe w'=>UO w [VK,Zg,Xo,WN,Y3,WZ,W9] e w':=by
 have Xm:(bs [108,105,115,116]).toList=[108,105,115,116]:=TF _;exact jn
theorem afW (ZH:aA)(aa:ZH.toList=[115,116,97,116,101,109,101,110,116])(kind line:Int)(w:A):aq 94 #[.string ZH,.agg #[.string (bs [108,105,110]),.int .u8 kind,Y line]] w λe w'=>UO w [VL,WY,Y3] e w':=by
 have Xm:(bs [108,105,110]).toList=[108,105,110]:=TF _;exact jn
theorem afX (ZH:aA)(aa:ZH.toList=[115,116,97,116,101,109,101,110,116])(kind line:Int)(w:A):aq 94 #[.string ZH,.agg #[.string (bs [119,104,101,110]),.int .u8 kind,Y line]] w λe w'=>UO w [VI,Zg,WJ,WY,Y3] e w':=by
 have Xm:(bs [119,104,101,110]).toList=[119,104,101,110]:=TF _;exact jn
theorem afY (ZH:aA)(aa:ZH.toList=[115,116,97,116,101,109,101,110,116])(kind line:Int)(w:A):aq 94 #[.string ZH,.agg #[.string (bs [97,116]),.int .u8 kind,Y line]] w λe w'=>UO w [VN,Zg,WN,Zg,W9,Xo,Zg] e w':=by
 have Xm:(bs [97,116]).toList=[97,116]:=TF _;exact jn
theorem afZ (ZH:aA)(aa:ZH.toList=[115,116,97,116,101,109,101,110,116])(kind line:Int)(w:A):aq 94 #[.string ZH,.agg #[.string (bs [100,105,102,102]),.int .u8 kind,Y line]] w λe w'=>UO w [VM,Zg,Wx] e w':=by
 have Xm:(bs [100,105,102,102]).toList=[100,105,102,102]:=TF _;exact jn
theorem af0 (ZH:aA)(aa:ZH.toList=[115,116,97,116,101,109,101,110,116])(ts:aA)(kind line:Int)(h0:(ts.toList==[118,97,114])=false)(F:(ts.toList==[108,105,115,116])=false)(h2:(ts.toList==[108,105,110])=false)(h3:(ts.toList==[119,104,101,110])=false)(h4:(ts.toList==[97,116])=false)(h5:(ts.toList==[100,105,102,102])=false)(w:A):aq 94 #[.string ZH,.agg #[.string ts,.int .u8 kind,Y line]] w λe w'=>UO w [Vy,Wz,Wy] e w':=by
 exact jn
def oQ{P:Prop}(h:P:=by
 have Xm:(bs [44]).toList=[44]:=TF _;exact jn):P:=h
theorem af1 (ZH:aA)(aa:ZH.toList=[105,110,116,115])(kind line:Int)(w:A):aq 94 #[.string ZH,.agg #[.string (bs [44]),.int .u8 kind,Y line]] w λe w'=>UO w [XQ,Y3,WZ] e w':=by
 exact oQ
theorem af2 (ZH:aA)(aa:ZH.toList=[105,110,116,115])(ts:aA)(kind line:Int)(h0:(ts.toList==[44])=false)(w:A):aq 94 #[.string ZH,.agg #[.string ts,.int .u8 kind,Y line]] w λe w'=>UO w [] e w':=by
 exact kL
theorem af3 (ZH:aA)(aa:ZH.toList=[110,97,109,101,115])(kind line:Int)(w:A):aq 94 #[.string ZH,.agg #[.string (bs [44]),.int .u8 kind,Y line]] w λe w'=>UO w [XQ,Zg,Wx] e w':=by
 exact oQ
theorem af4 (ZH:aA)(aa:ZH.toList=[110,97,109,101,115])(ts:aA)(kind line:Int)(h0:(ts.toList==[44])=false)(w:A):aq 94 #[.string ZH,.agg #[.string ts,.int .u8 kind,Y line]] w λe w'=>UO w [] e w':=by
 exact kL
theorem af5 (ZH:aA)(aa:ZH.toList=[108,105,116,115])(kind line:Int)(w:A):aq 94 #[.string ZH,.agg #[.string (bs [44]),.int .u8 kind,Y line]] w λe w'=>UO w [XQ,Wz,Wy] e w':=by
 exact oQ
theorem af6 (ZH:aA)(aa:ZH.toList=[108,105,116,115])(ts:aA)(kind line:Int)(h0:(ts.toList==[44])=false)(w:A):aq 94 #[.string ZH,.agg #[.string ts,.int .u8 kind,Y line]] w λe w'=>UO w [] e w':=by
 exact kL
theorem af7 (ZH:aA)(aa:ZH.toList=[108,105,116])(kind line:Int)(w:A):aq 94 #[.string ZH,.agg #[.string (bs [33]),.int .u8 kind,Y line]] w λe w'=>UO w [VU,Zg] e w':=by
 have Xm:(bs [33]).toList=[33]:=TF _;exact jn
theorem af8 (ZH:aA)(aa:ZH.toList=[108,105,116])(ts:aA)(kind line:Int)(h0:(ts.toList==[33])=false)(w:A):aq 94 #[.string ZH,.agg #[.string ts,.int .u8 kind,Y line]] w λe w'=>UO w [Zg] e w':=by
 exact jn
theorem af9 (ZH:aA)(aa:ZH.toList=[115,117,109])(ts:aA)(kind line:Int)(w:A):aq 94 #[.string ZH,.agg #[.string ts,.int .u8 kind,Y line]] w λe w'=>UO w [WM,WX] e w':=by
 exact jn
theorem aga (ZH:aA)(aa:ZH.toList=[116,101,114,109,115])(kind line:Int)(w:A):aq 94 #[.string ZH,.agg #[.string (bs [43]),.int .u8 kind,Y line]] w λe w'=>UO w [Vg,WM,WX] e w':=by
 have Xm:(bs [43]).toList=[43]:=TF _;exact jn
theorem agb (ZH:aA)(aa:ZH.toList=[116,101,114,109,115])(kind line:Int)(w:A):aq 94 #[.string ZH,.agg #[.string (bs [45]),.int .u8 kind,Y line]] w λe w'=>UO w [Vh,WM,WX] e w':=by
 have Xm:(bs [45]).toList=[45]:=TF _;exact jn
theorem agc (ZH:aA)(aa:ZH.toList=[116,101,114,109,115])(ts:aA)(kind line:Int)(h0:(ts.toList==[43])=false)(F:(ts.toList==[45])=false)(w:A):aq 94 #[.string ZH,.agg #[.string ts,.int .u8 kind,Y line]] w λe w'=>UO w [Vx] e w':=by
 exact jn
theorem agd (ZH:aA)(aa:ZH.toList=[116,101,114,109])(ts:aA)(kind line:Int)(h0:(kind==105)=true)(w:A):aq 94 #[.string ZH,.agg #[.string ts,.int .u8 kind,Y line]] w λe w'=>UO w [Y3,Vz,Zg] e w':=by
 exact jn
theorem age (ZH:aA)(aa:ZH.toList=[116,101,114,109])(ts:aA)(kind line:Int)(h0:(kind==105)=false)(w:A):aq 94 #[.string ZH,.agg #[.string ts,.int .u8 kind,Y line]] w λe w'=>UO w [Zg] e w':=by
 exact jn
theorem agf (ZH:aA)(aa:ZH.toList=[114,101,108])(kind line:Int)(w:A):aq 94 #[.string ZH,.agg #[.string (bs [33,61]),.int .u8 kind,Y line]] w λe w'=>UO w [VA] e w':=by
 have Xm:(bs [33,61]).toList=[33,61]:=TF _;exact jn
theorem agh (ZH:aA)(aa:ZH.toList=[114,101,108])(kind line:Int)(w:A):aq 94 #[.string ZH,.agg #[.string (bs [60,61]),.int .u8 kind,Y line]] w λe w'=>UO w [VB] e w':=by
 have Xm:(bs [60,61]).toList=[60,61]:=TF _;exact jn
theorem agi (ZH:aA)(aa:ZH.toList=[114,101,108])(ts:aA)(kind line:Int)(h0:(ts.toList==[33,61])=false)(F:(ts.toList==[60,61])=false)(w:A):aq 94 #[.string ZH,.agg #[.string ts,.int .u8 kind,Y line]] w λe w'=>UO w [Xo] e w':=by
 exact jn
theorem agj (ZH:aA)(h0:(ZH.toList==[109,111,100,101,108])=false)(F:(ZH.toList==[115,116,97,116,101,109,101,110,116])=false)(h2:(ZH.toList==[105,110,116,115])=false)(h3:(ZH.toList==[110,97,109,101,115])=false)(h4:(ZH.toList==[108,105,116,115])=false)(h5:(ZH.toList==[108,105,116])=false)(h6:(ZH.toList==[115,117,109])=false)(h7:(ZH.toList==[116,101,114,109,115])=false)(h8:(ZH.toList==[116,101,114,109])=false)(h9:(ZH.toList==[114,101,108])=false)(ts:aA)(kind line:Int)(w:A):aq 94 #[.string ZH,.agg #[.string ts,.int .u8 kind,Y line]] w λe w'=>
   e=.returned (.tuple #[af,.bool false])/\Below w.heap.size w w':=by
 go_enter func94,ntmps94;go_wp2
 go_ret2
 exact⟨rfl,BH _ _ _⟩
theorem Ul {o:Option (List (List UInt8))}{L L':List (List UInt8)}{p:FuncId}{a:Array aF}{w:A}(he:o=some L)(ho:o=some L')(h:aq p a w λe w'=>UO w L e w'):aq p a w λe w'=>UO w L' e w':=by
 subst ho;cases he;exact h
theorem wW (ZH ts:aA)(kind line:Int)(w:A)(L':List (List UInt8))(ho:Yx ZH.toList kind ts.toList=some L'):aq 94 #[.string ZH,.agg #[.string ts,.int .u8 kind,Y line]] w λe w'=>UO w L' e w':=by
 by_cases s0:ZH.toList=[109,111,100,101,108]
 ·by_cases k0:(kind==107)=true
  ·exact Ul pN ho (afS ZH s0 ts kind line k0 w)
  exact Ul pN ho (afT ZH s0 ts kind line (by simpa using k0) w)
 by_cases s1:ZH.toList=[115,116,97,116,101,109,101,110,116]
 ·by_cases k0:ts.toList=[118,97,114]
  ·obtain rfl:=RJ ts _ k0;exact Ul pJ ho (afU ZH s1 kind line w)
  by_cases k1:ts.toList=[108,105,115,116]
  ·obtain rfl:=RJ ts _ k1;exact Ul pJ ho (afV ZH s1 kind line w)
  by_cases k2:ts.toList=[108,105,110]
  ·obtain rfl:=RJ ts _ k2;exact Ul pJ ho (afW ZH s1 kind line w)
  by_cases k3:ts.toList=[119,104,101,110]
  ·obtain rfl:=RJ ts _ k3;exact Ul pJ ho (afX ZH s1 kind line w)
  by_cases k4:ts.toList=[97,116]
  ·obtain rfl:=RJ ts _ k4;exact Ul pJ ho (afY ZH s1 kind line w)
  by_cases k5:ts.toList=[100,105,102,102]
  ·obtain rfl:=RJ ts _ k5;exact Ul pJ ho (afZ ZH s1 kind line w)
  exact Ul (by rw[s1];simp[Yx,W9,WJ,XQ,Wa,Xo,VB,Vh,VA,VU,WN,Vg,VT,Vz,VN,VM,VL,VK,Vy,VJ,VI,Y3,WZ,Wz,Wy,XF,Zg,Wx,Vx,Wj,WY,WM,WX,k0,k1,k2,k3,k4,k5]) ho (af0 ZH s1 ts kind line (TW k0) (TW k1) (TW k2) (TW k3) (TW k4) (TW k5) w)
 by_cases s2:ZH.toList=[105,110,116,115]
 ·by_cases k0:ts.toList=[44]
  ·obtain rfl:=RJ ts _ k0;exact Ul (by rw[TF,s2];simp[Yx,W9,WJ,XQ,Wa,Xo,VB,Vh,VA,VU,WN,Vg,VT,Vz,VN,VM,VL,VK,Vy,VJ,VI,Y3,WZ,Wz,Wy,XF,Zg,Wx,Vx,Wj,WY,WM,WX]) ho (af1 ZH s2 kind line w)
  exact Ul (by rw[s2];simp[Yx,W9,WJ,XQ,Wa,Xo,VB,Vh,VA,VU,WN,Vg,VT,Vz,VN,VM,VL,VK,Vy,VJ,VI,Y3,WZ,Wz,Wy,XF,Zg,Wx,Vx,Wj,WY,WM,WX,k0]) ho (af2 ZH s2 ts kind line (TW k0) w)
 by_cases s3:ZH.toList=[110,97,109,101,115]
 ·by_cases k0:ts.toList=[44]
  ·obtain rfl:=RJ ts _ k0;exact Ul (by rw[TF,s3];simp[Yx,W9,WJ,XQ,Wa,Xo,VB,Vh,VA,VU,WN,Vg,VT,Vz,VN,VM,VL,VK,Vy,VJ,VI,Y3,WZ,Wz,Wy,XF,Zg,Wx,Vx,Wj,WY,WM,WX]) ho (af3 ZH s3 kind line w)
  exact Ul (by rw[s3];simp[Yx,W9,WJ,XQ,Wa,Xo,VB,Vh,VA,VU,WN,Vg,VT,Vz,VN,VM,VL,VK,Vy,VJ,VI,Y3,WZ,Wz,Wy,XF,Zg,Wx,Vx,Wj,WY,WM,WX,k0]) ho (af4 ZH s3 ts kind line (TW k0) w)
 by_cases s4:ZH.toList=[108,105,116,115]
 ·by_cases k0:ts.toList=[44]
  ·obtain rfl:=RJ ts _ k0;exact Ul (by rw[TF,s4];simp[Yx,W9,WJ,XQ,Wa,Xo,VB,Vh,VA,VU,WN,Vg,VT,Vz,VN,VM,VL,VK,Vy,VJ,VI,Y3,WZ,Wz,Wy,XF,Zg,Wx,Vx,Wj,WY,WM,WX]) ho (af5 ZH s4 kind line w)
  exact Ul (by rw[s4];simp[Yx,W9,WJ,XQ,Wa,Xo,VB,Vh,VA,VU,WN,Vg,VT,Vz,VN,VM,VL,VK,Vy,VJ,VI,Y3,WZ,Wz,Wy,XF,Zg,Wx,Vx,Wj,WY,WM,WX,k0]) ho (af6 ZH s4 ts kind line (TW k0) w)
 by_cases s5:ZH.toList=[108,105,116]
 ·by_cases k0:ts.toList=[33]
  ·obtain rfl:=RJ ts _ k0;exact Ul (by rw[TF,s5];simp[Yx,W9,WJ,XQ,Wa,Xo,VB,Vh,VA,VU,WN,Vg,VT,Vz,VN,VM,VL,VK,Vy,VJ,VI,Y3,WZ,Wz,Wy,XF,Zg,Wx,Vx,Wj,WY,WM,WX]) ho (af7 ZH s5 kind line w)
  exact Ul (by rw[s5];simp[Yx,W9,WJ,XQ,Wa,Xo,VB,Vh,VA,VU,WN,Vg,VT,Vz,VN,VM,VL,VK,Vy,VJ,VI,Y3,WZ,Wz,Wy,XF,Zg,Wx,Vx,Wj,WY,WM,WX,k0]) ho (af8 ZH s5 ts kind line (TW k0) w)
 by_cases s6:ZH.toList=[115,117,109]
 ·exact Ul (by rw[s6];simp[Yx,W9,WJ,XQ,Wa,Xo,VB,Vh,VA,VU,WN,Vg,VT,Vz,VN,VM,VL,VK,Vy,VJ,VI,Y3,WZ,Wz,Wy,XF,Zg,Wx,Vx,Wj,WY,WM,WX]) ho (af9 ZH s6 ts kind line w)
 by_cases s7:ZH.toList=[116,101,114,109,115]
 ·by_cases k0:ts.toList=[43]
  ·obtain rfl:=RJ ts _ k0;exact Ul pR ho (aga ZH s7 kind line w)
  by_cases k1:ts.toList=[45]
  ·obtain rfl:=RJ ts _ k1;exact Ul pR ho (agb ZH s7 kind line w)
  exact Ul (by rw[s7];simp[Yx,W9,WJ,XQ,Wa,Xo,VB,Vh,VA,VU,WN,Vg,VT,Vz,VN,VM,VL,VK,Vy,VJ,VI,Y3,WZ,Wz,Wy,XF,Zg,Wx,Vx,Wj,WY,WM,WX,k0,k1]) ho (agc ZH s7 ts kind line (TW k0) (TW k1) w)
 by_cases s8:ZH.toList=[116,101,114,109]
 ·by_cases k0:(kind==105)=true
  ·exact Ul pO ho (agd ZH s8 ts kind line k0 w)
  exact Ul pO ho (age ZH s8 ts kind line (by simpa using k0) w)
 by_cases s9:ZH.toList=[114,101,108]
 ·by_cases k0:ts.toList=[33,61]
  ·obtain rfl:=RJ ts _ k0;exact Ul pS ho (agf ZH s9 kind line w)
  by_cases k1:ts.toList=[60,61]
  ·obtain rfl:=RJ ts _ k1;exact Ul pS ho (agh ZH s9 kind line w)
  exact Ul (by rw[s9];simp[Yx,W9,WJ,XQ,Wa,Xo,VB,Vh,VA,VU,WN,Vg,VT,Vz,VN,VM,VL,VK,Vy,VJ,VI,Y3,WZ,Wz,Wy,XF,Zg,Wx,Vx,Wj,WY,WM,WX,k0,k1]) ho (agi ZH s9 ts kind line (TW k0) (TW k1) w)
 have e:Yx ZH.toList kind ts.toList=none:=by
  unfold Yx;rw[iQ (show ¬ZH.toList=XF from s0)];rw[iQ (show ¬ZH.toList=Wj from s1)];rw[iQ (show ¬ZH.toList=WZ from s2)];rw[iQ (show ¬ZH.toList=Wx from s3)];rw[iQ (show ¬ZH.toList=Wy from s4)];rw[iQ (show ¬ZH.toList=Wz from s5)];rw[iQ (show ¬ZH.toList=WY from s6)];rw[iQ (show ¬ZH.toList=WX from s7)];rw[iQ (show ¬ZH.toList=WM from s8)];rw[iQ (show ¬ZH.toList=Vx from s9)]
 rw[e]at ho
 cases ho
theorem wV (ZH ts:aA)(kind line:Int)(w:A)(ho:Yx ZH.toList kind ts.toList=none):aq 94 #[.string ZH,.agg #[.string ts,.int .u8 kind,Y line]] w λe w'=>
   e=.returned (.tuple #[af,.bool false])/\Below w.heap.size w w':=by
 by_cases s0:ZH.toList=[109,111,100,101,108]
 ·rw[s0]at ho;simp[Yx,W9,WJ,XQ,Wa,Xo,VB,Vh,VA,VU,WN,Vg,VT,Vz,VN,VM,VL,VK,Vy,VJ,VI,Y3,WZ,Wz,Wy,XF,Zg,Wx,Vx,Wj,WY,WM,WX]at ho
 by_cases s1:ZH.toList=[115,116,97,116,101,109,101,110,116]
 ·rw[s1]at ho;simp[Yx,W9,WJ,XQ,Wa,Xo,VB,Vh,VA,VU,WN,Vg,VT,Vz,VN,VM,VL,VK,Vy,VJ,VI,Y3,WZ,Wz,Wy,XF,Zg,Wx,Vx,Wj,WY,WM,WX]at ho
 by_cases s2:ZH.toList=[105,110,116,115]
 ·rw[s2]at ho;simp[Yx,W9,WJ,XQ,Wa,Xo,VB,Vh,VA,VU,WN,Vg,VT,Vz,VN,VM,VL,VK,Vy,VJ,VI,Y3,WZ,Wz,Wy,XF,Zg,Wx,Vx,Wj,WY,WM,WX]at ho
 by_cases s3:ZH.toList=[110,97,109,101,115]
 ·rw[s3]at ho;simp[Yx,W9,WJ,XQ,Wa,Xo,VB,Vh,VA,VU,WN,Vg,VT,Vz,VN,VM,VL,VK,Vy,VJ,VI,Y3,WZ,Wz,Wy,XF,Zg,Wx,Vx,Wj,WY,WM,WX]at ho
 by_cases s4:ZH.toList=[108,105,116,115]
 ·rw[s4]at ho;simp[Yx,W9,WJ,XQ,Wa,Xo,VB,Vh,VA,VU,WN,Vg,VT,Vz,VN,VM,VL,VK,Vy,VJ,VI,Y3,WZ,Wz,Wy,XF,Zg,Wx,Vx,Wj,WY,WM,WX]at ho
 by_cases s5:ZH.toList=[108,105,116]
 ·rw[s5]at ho;simp[Yx,W9,WJ,XQ,Wa,Xo,VB,Vh,VA,VU,WN,Vg,VT,Vz,VN,VM,VL,VK,Vy,VJ,VI,Y3,WZ,Wz,Wy,XF,Zg,Wx,Vx,Wj,WY,WM,WX]at ho
 by_cases s6:ZH.toList=[115,117,109]
 ·rw[s6]at ho;simp[Yx,W9,WJ,XQ,Wa,Xo,VB,Vh,VA,VU,WN,Vg,VT,Vz,VN,VM,VL,VK,Vy,VJ,VI,Y3,WZ,Wz,Wy,XF,Zg,Wx,Vx,Wj,WY,WM,WX]at ho
 by_cases s7:ZH.toList=[116,101,114,109,115]
 ·rw[s7]at ho;simp[Yx,W9,WJ,XQ,Wa,Xo,VB,Vh,VA,VU,WN,Vg,VT,Vz,VN,VM,VL,VK,Vy,VJ,VI,Y3,WZ,Wz,Wy,XF,Zg,Wx,Vx,Wj,WY,WM,WX]at ho
 by_cases s8:ZH.toList=[116,101,114,109]
 ·rw[s8]at ho;simp[Yx,W9,WJ,XQ,Wa,Xo,VB,Vh,VA,VU,WN,Vg,VT,Vz,VN,VM,VL,VK,Vy,VJ,VI,Y3,WZ,Wz,Wy,XF,Zg,Wx,Vx,Wj,WY,WM,WX]at ho
 by_cases s9:ZH.toList=[114,101,108]
 ·rw[s9]at ho;simp[Yx,W9,WJ,XQ,Wa,Xo,VB,Vh,VA,VU,WN,Vg,VT,Vz,VN,VM,VL,VK,Vy,VJ,VI,Y3,WZ,Wz,Wy,XF,Zg,Wx,Vx,Wj,WY,WM,WX]at ho
 exact agj ZH (TW s0) (TW s1) (TW s2) (TW s3) (TW s4) (TW s5) (TW s6) (TW s7) (TW s8) (TW s9) ts kind line w
end
def Sy:ZY:=⟨ByteArray.empty,101,0⟩
def Yk (l:List ZY):ZY:=l.headD Sy
def fits (y:List UInt8)(t:ZY):Bool:=
 if y=Y3 then decide (t.kind=105)else if y=Zg then decide (t.kind=110)else y==t.s.toList&&t.kind != 101
def Vl:Nat->List (List UInt8)->List ZY->Option Int
 |0,_,_=>none
 |f+1,want,l=>
  match want with
  |[]=>some (match l with|[]=>0|t::_=>t.line)
  |y::rest=>
   match Yx y (Yk l).kind (Yk l).s.toList with
   |some next=>Vl f (next++rest) l
   |none=>if fits y (Yk l)then Vl f rest l.tail else some (if (Yk l).kind=101 then-1 else(Yk l).line)
theorem agk (f:Nat)(l:List ZY):Vl (f+1) [] l=some (match l with|[]=>(0:Int)|t::_=>(t.line:Int)):=rfl
theorem ID {f:Nat}{y:List UInt8}{rest next:List (List UInt8)}{l:List ZY}(h:Yx y (Yk l).kind (Yk l).s.toList=some next):Vl (f+1) (y::rest) l=Vl f (next++rest) l:=by
 simp only[Vl,h]
theorem wU {f:Nat}{y:List UInt8}{rest:List (List UInt8)}{l:List ZY}(h:Yx y (Yk l).kind (Yk l).s.toList=none)(hf:fits y (Yk l)=true):Vl (f+1) (y::rest) l=Vl f rest l.tail:=by
 simp only[Vl,h,hf,iP]
theorem wT {f:Nat}{y:List UInt8}{rest:List (List UInt8)}{l:List ZY}(h:Yx y (Yk l).kind (Yk l).s.toList=none)(hf:fits y (Yk l)=false):Vl (f+1) (y::rest) l=some (if (Yk l).kind=101 then(-1:Int)else((Yk l).line:Int)):=by
 simp only[Vl,h,hf,dv,iK]
end Go.Proofs.YthpcbbnabnlanaaGreatDoor
