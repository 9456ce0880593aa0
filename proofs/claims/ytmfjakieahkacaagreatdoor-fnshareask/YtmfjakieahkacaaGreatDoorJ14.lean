/- What opening an argument leans on: lists, cells, texts and numbers that can be read. -/
import Derived.Test.YtmfjakieahkacaaGreatDoorRows
import Derived.Test.YtmfjakieahkacaaGreatDoorJ2
import Derived.ProofKit
import Derived.OpenShut
import Derived.OpenVars
import Derived.LaidLaws
import Derived.Lib.LaidTab
import Derived.ChangeBears2
import Derived.Deep.DeepHandedRow
import Derived.Test.YtmfjakieahkacaaGreatDoorJ8
import Derived.Laws.Bits64
import Derived.Deep.QuietTactic
import Derived.BigQuiet
import Derived.Test.YtmfjakieahkacaaGreatDoorJ11
import Derived.Lib.SlicesCompact
import Derived.Test.YtmfjakieahkacaaGreatDoorJ9
import Derived.Laws.OwnMore
set_option maxRecDepth 20000
set_option maxHeartbeats 4000000
namespace Go.Proofs.YtmfjakieahkacaaGreatDoor
open Go.ChangeShapes Go.WideShapes Go.ChangeAt Go.RowKit
theorem own:ownKnob Tryz.prog.godebug=none:=by kernel_rfl
theorem RA:laidOutB Tryz.prog=true:=by kernel_rfl
end Go.Proofs.YtmfjakieahkacaaGreatDoor
namespace Go.Proofs.YtmfjakieahkacaaGreatDoor
open Go.RowKit
def Mb(ss:List ByteArray)(s:ByteArray):Nat:=(ss.takeWhile λx=>Z9 x s).length
def Ff(ss:List ByteArray)(s:ByteArray)(i:Nat):Prop:=∀(k:Nat)(x:ByteArray),k<i->ss[k]?=some x->Z9 x s=true
def DG(ss:List ByteArray)(s:ByteArray)(j:Nat):Prop:=∀(k:Nat)(x:ByteArray),j<=k->ss[k]?=some x->Z9 x s=false
theorem RB{ss:List ByteArray}{s:ByteArray}{i:Nat}(hi:i<=ss.length)(hl:Ff ss s i)(hh:DG ss s i):Mb ss s=i :=
 Pd _ _ _ hi hl (λx hx=>hh i x (A3 _) hx)
theorem Xg{ss:List ByteArray}{s:ByteArray}{i h:Nat}(ha:Bg ss)(_:Ff ss s i)(hh:h<ss.length)(hs:Z9 ss[h] s=true):Ff ss s (h+1):=λk x hk hx=>by
 by_cases e:k=h
 ·subst e;rw[A0 hh] at hx;obtain rfl:=A5 hx;exact hs
 ·exact FW (Dr ha (h-k-1) k x _ hx (by rw[show k+1+(h-k-1)=h by omega];exact A0 hh)) hs
theorem US{ss:List ByteArray}{s:ByteArray}{h:Nat}(ha:Bg ss)(hh:h<ss.length)(hs:Z9 ss[h] s=false):DG ss s h:=λk x hk hx=>by
 by_cases e:k=h
 ·subst e;rw[A0 hh] at hx;obtain rfl:=A5 hx;exact hs
 ·cases hq:Z9 x s
  ·rfl
  ·have:=FW (Dr ha (k-h-1) h _ x (A0 hh) (by rw[show h+1+(k-h-1)=k by omega];exact hx)) hq;rw[hs] at this;cases this
theorem Zu{ss:List ByteArray}{s:ByteArray}{i:Nat}(hl:Ff ss s i)(hh:DG ss s i)(ha:Bg ss)(hi:i<ss.length):D2 ss s=((ss[i]).toList==s.toList):=by
 cases hq:((ss[i]).toList==s.toList)
 ·rw[AD];intro hm;obtain⟨k,hk,rfl⟩:=B7 hm;rcases Nat.lt_trichotomy k i with h1|h1|h1
  ·have:=hl k _ h1 (A0 hk);rw[Dg] at this;cases this
  ·subst h1;simp at hq
  ·have h2:=Dr ha (k-i-1) i _ _ (A0 hi) (by rw[show i+1+(k-i-1)=k by omega];exact A0 hk);have h3:=hh i _ (A3 _) (A0 hi);rw[h2] at h3;cases h3
 ·exact EW hi hq
theorem Xh{ss:List ByteArray}{s:ByteArray}{i:Nat}(hl:Ff ss s i)(hi:¬i<ss.length):D2 ss s=false:=by
 rw[AD];intro hm;obtain⟨k,hk,rfl⟩:=B7 hm;have:=hl k _ (by omega) (A0 hk);rw[Dg] at this;cases this
theorem UT(s:ByteArray)(w:World):Calls Tryz.prog 126 #[.string s] w λe w'=>e=.returned (.bool false)/\w'=w:=by
 go_enter Tryz.func126,Tryz.ntmps126;go_wp2;go_ret;exact⟨rfl,rfl⟩
theorem Tb(s:ByteArray)(w:World):Calls Tryz.prog 129 #[.string s] w λe w'=>e=.returned (.bool false)/\w'=w:=by
 go_enter Tryz.func129,Tryz.ntmps129;go_wp2;go_ret;exact⟨rfl,rfl⟩
theorem QK(a b:ByteArray)(w:World):Calls Tryz.prog 125 #[.string a,.string b] w λe w'=>e=.returned (.bool (Z9 a b))/\w'=w:=by
 have Hl:Hid (Z9 a b=Op.bytesLess a.toList b.toList):=rfl;go_enter Tryz.func125,Tryz.ntmps125;go_wp2_with (go_at_call 129;refine (Tb _ _).mono ?_;rintro e w' ⟨rfl,hw⟩;obtain rfl:=hw.symm;clear hw)
 go_ret;exact⟨F6 Hl.out.symm,rfl⟩
theorem Kp{i j:Nat}{a b:Bool}(h1:i=j)(h2:a=b):Ending.returned (.tuple #[.int .i64 (i:Int),.bool a])=.returned (.tuple #[.int .i64 (j:Int),.bool b]):=by rw[h1,h2]
theorem QL(ss:List ByteArray)(v:Value)(s:ByteArray)(w:World)(h:Ls w v ss)(ha:Bg ss)(hn:ss.length<=1000):
  Calls Tryz.prog 116 #[v,.string s] w λe w'=>e=.returned (.tuple #[.int .i64 (Mb ss s:Int),.bool (D2 ss s)])/\w'=w:=by
 obtain⟨a,c,rfl,-,-,hpos⟩:=h;have Ha:Hid (Bg ss):=ha;clear ha;go_enter Tryz.func116,Tryz.ntmps116;go_wp2_with fail;go_loopw [7,8,9] (λvi vj _ w'=>∃i j:Nat,i<=j/\j<=ss.length/\vi=.int .i64 i/\vj=.int .i64 j/\Ff ss s i/\DG ss s j/\w'=w) (λvi vj _ _=>(intOf vj).toNat-(intOf vi).toNat)
 case atStart=>exact⟨0,ss.length,by omega,by omega,rfl,rfl,λk x hk=>by omega,λk x hk hx=>by have:=(A2.1 hx).1;omega,rfl⟩
 case round =>
  obtain⟨i,j,hij,hjn,rfl,rfl,hlo,hhi,hw⟩:=hrel;obtain rfl:=hw.symm;clear hw;have HL:Hid (Ff ss s i):=hlo;have HH:Hid (DG ss s j):=hhi;clear hlo hhi;by_cases hp:i<j
  ·have hp':(i:Int)<(j:Int):=by omega
   obtain⟨b,o,rfl,hS,hb⟩:=hpos (by omega);have hm:(i+j) / 2<ss.length:=by omega
   have c0:=hS.cell hm;have HY:Hid (Z9 ss[(i+j) / 2] s=true->Ff ss s ((i+j) / 2+1)):=λhq=>Xg Ha.out HL.out hm hq;have HN:Hid (Z9 ss[(i+j) / 2] s=false->DG ss s ((i+j) / 2)):=λhq=>US Ha.out hm hq;generalize ss[(i+j) / 2]=s0 at *;obtain⟨m,hmm,hm1,hm2⟩:∃m:Nat,(i+j) / 2=m/\i<=m/\m<j:=⟨_,rfl,by omega,by omega⟩;rw[hmm] at c0 HY HN;have hI:((i:Int)+(j:Int)) / 2=(m:Int):=by omega
   have hml:m<ss.length:=by omega
   go_upto_region 5 with fail;try rw[hI]
   clear hI hmm hm;go_wp2_with fail;refine (QK s0 s _).mono ?_;rintro e w' ⟨rfl,hw⟩;obtain rfl:=hw.symm;clear hw;cases hq:Z9 s0 s
   ·have Hq:Hid (DG ss s m):=HN.out hq;go_wp2_with fail;go_roundw
    case rel=>exact⟨i,m,by omega,by omega,rfl,rfl,HL.out,Hq.out,by first|rfl|trivial⟩
    case measure=>simp[intOf];omega
   ·have Hq:Hid (Ff ss s (m+1)):=HY.out hq;go_wp2_with fail;go_roundw
    case rel=>exact⟨m+1,j,by omega,by omega,by go_num,rfl,Hq.out,HH.out,by first|rfl|trivial⟩
    case measure=>simp[intOf];omega
  ·obtain rfl:i=j:=by omega
   have hp':¬(i:Int)<(i:Int):=by omega
   have HI:Hid (Mb ss s=i):=RB hjn HL.out HH.out;by_cases he:i<ss.length
   ·have he':(i:Int)<(ss.length:Int):=by omega
    obtain⟨b,o,rfl,hS,hb⟩:=hpos (by omega);have c0:=hS.cell he;have HM:Hid (D2 ss s=((ss[i]).toList==s.toList)):=Zu HL.out HH.out Ha.out he;generalize ss[i]=s0 at *;cases hq:(s0.toList==s.toList)
    ·have Hm:Hid (D2 ss s=false):=by show _=_;rw[HM.out,hq]
     go_wp2_with (go_at_call 126;refine (UT _ _).mono ?_;rintro e w' ⟨rfl,hw⟩;obtain rfl:=hw.symm;clear hw)
     go_returns
     exact⟨Kp HI.out.symm Hm.out.symm,rfl⟩
    ·have Hm:Hid (D2 ss s=true):=by show _=_;rw[HM.out,hq]
     go_wp2_with fail;go_returns
     exact⟨Kp HI.out.symm Hm.out.symm,rfl⟩
   ·have he':¬(i:Int)<(ss.length:Int):=by omega
    have Hm:Hid (D2 ss s=false):=Xh HL.out he;go_wp2_with fail;go_returns
    exact⟨Kp HI.out.symm Hm.out.symm,rfl⟩
theorem Pm(b:Bk)(v:Value)(nm:ByteArray)(w:World)(h:K0 w v b)(hok:J0 b):
  Calls Tryz.prog 83 #[v,.string nm] w λe w'=>e=.returned (.tuple #[.int .i64 (Mb (I9 b.bs) nm:Int),.bool (D2 (I9 b.bs) nm)])/\Below w.heap.size w w':=by
 obtain⟨a1,c1,a2,c2,rfl,-,h2⟩:=h.parts;obtain⟨W1,hW1,kA,hB1,hs1⟩:=cbE1 w [.slice a1 (b).tg.length c1,.slice a2 (b).bs.length c2] 26;have hn5:b.bs.length<=5:=hok.2.1;have Ha:Hid (Bg (I9 b.bs)):=hok.2.2.2.1;go_enter Tryz.func83,Tryz.ntmps83;go_upto_region 1 with fail;try rw[hW1]
 clear hW1 hs1;obtain⟨e0,e1⟩:=kA.c2';go_wp2_with fail;refine (Ej b.bs _ _ (h2.up hB1) (by omega)).mono ?_;rintro e w2 ⟨⟨u,rfl,-,hl⟩,hb2⟩;obtain⟨ax,cx,rfl,-⟩:=id hl;have hB2:=D1 hB1 hb2;clear e0 e1;go_wp2_with fail;refine (QL (I9 b.bs) _ nm _ hl Ha.out (by rw[O1];omega)).mono ?_;rintro e w3 ⟨rfl,hw⟩;obtain rfl:=hw.symm;go_wp2_with fail;go_returns
 exact⟨rfl,hB2⟩
theorem Zv(a b:Nat)(ha:a<4611686018427387904)(hb:b<4611686018427387904):0<=bits .xor .i64 (a:Int) (b:Int)/\bits .xor .i64 (a:Int) (b:Int)<4611686018427387904:=by
 have hx:a ^^^ b<2 ^ 62:=Nat.xor_lt_two_pow (by omega) (by omega)
 have h1:(BitVec.ofInt 64 (a:Int)).toNat=a:=by
  rw[BitVec.ofInt_natCast,BitVec.toNat_ofNat];exact Nat.mod_eq_of_lt (by omega)
 have h2:(BitVec.ofInt 64 (b:Int)).toNat=b:=by
  rw[BitVec.ofInt_natCast,BitVec.toNat_ofNat];exact Nat.mod_eq_of_lt (by omega)
 have e:bits .xor .i64 (a:Int) (b:Int)=IntKind.i64.wrap ((a ^^^ b:Nat):Int):=by
  show IntKind.i64.wrap ((BitVec.ofInt 64 (a:Int) ^^^ BitVec.ofInt 64 (b:Int)).toNat:Int)=_
  rw[BitVec.toNat_xor,h1,h2]
 rw[e,IntKind.wrap_i64];omega
def Y4(w:World)(rb:Nat)(v:Value)(len:Nat):Prop:=∃(a:Option Addr)(cap:Nat),v=.slice a len cap/\(len=0∨∃(b o:Nat)(z:Nat->Int),a=some ⟨b,o,none⟩/\b<rb/\∀i,i<len->w.cell? ⟨b,o+i,none⟩=some (.int .u8 (z i))/\0<=z i/\z i<=255)
def Rd(w:World)(rb:Nat)(v:Value)(len N:Nat):Prop:=∃p:Nat,p<=N/\w.cell? ⟨rb,0,none⟩=some v/\w.cell? ⟨rb,1,none⟩=some (.int .i64 p)/\w.frozen? ⟨rb,1,none⟩=false/\Y4 w rb v len/\len<=2000
theorem Y4.kept{w w':World}{rb len:Nat}{v:Value}(h:Y4 w rb v len)(hg:w.grownBy w' (some rb)):Y4 w' rb v len:=by
 obtain⟨a,cap,hv,h⟩:=h;refine⟨a,cap,hv,?_⟩;rcases h with h|⟨b,o,z,ha,hb,hz⟩
 ·exact .inl h
 ·exact .inr ⟨b,o,z,ha,hb,λi hi=>⟨hg.cell (hz i hi).1 (by simp;omega),(hz i hi).2⟩⟩
theorem Rd.drewN{w:World}{rb len N:Nat}{v:Value}(h:Rd w rb v len N)(n:Nat):Rd (w.drewN n) rb v len N:=h
theorem Rd.mono{w:World}{rb len N M:Nat}{v:Value}(h:Rd w rb v len N)(hM:N<=M):Rd w rb v len M:=by
 obtain⟨p,hp,r⟩:=h;exact⟨p,by omega,r⟩
theorem Rd.lt{w:World}{rb len N:Nat}{v:Value}(h:Rd w rb v len N):rb<w.heap.size:=by
 obtain⟨p,hp,c0,_⟩:=h;exact World.block_lt_of_cell? w _ c0
theorem Rd.kept{w w':World}{rb len N:Nat}{v:Value}(h:Rd w rb v len N)(hb:Below w.heap.size w w'):Rd w' rb v len N:=by
 have hlt:=h.lt;obtain⟨p,hp,c0,c1,f1,by1,hl⟩:=h;exact⟨p,hp,(hb.cell (p:=⟨rb,0,none⟩) hlt).trans c0,(hb.cell (p:=⟨rb,1,none⟩) hlt).trans c1,(hb.frozen (p:=⟨rb,1,none⟩) hlt).trans f1,by1.kept (O2 hb),hl⟩
theorem Rd.alloc{w:World}{rb len N:Nat}{v:Value}(h:Rd w rb v len N)(o:Obj):Rd (w.alloc o) rb v len N:=h.kept ((A4 _ _).alloc (A3 _) _)
theorem Rd.setCell{w:World}{rb len N pb off:Nat}{v u:Value}(h:Rd w rb v len N)(hlt:rb<pb):Rd (w.setCell ⟨pb,off,none⟩ u) rb v len N:=by
 obtain⟨p,hp,c0,c1,f1,⟨a,cap,hv,hb⟩,hl⟩:=h;refine⟨p,hp,?_,?_,?_,⟨a,cap,hv,?_⟩,hl⟩
 ·rw[C1 _ _ _ _ (by simp<;>omega)];exact c0
 ·rw[C1 _ _ _ _ (by simp<;>omega)];exact c1
 ·rw[World.frozen?_setCell];exact f1
 ·rcases hb with hb|⟨b,o,z,rfl,h1,hz⟩
  ·exact .inl hb
  ·refine .inr ⟨b,o,z,rfl,h1,λi hi=>⟨?_,(hz i hi).2⟩⟩;rw[C1 _ _ _ _ (by simp<;>omega)];exact (hz i hi).1
def SzS(ss:List ByteArray):Prop:=∀s∈ss,s.size<=maxLen
theorem Cy{ss:List ByteArray}(h:(ss.all λs=>decide (s.size<=100))=true):SzS ss:=λs hs=>by
 have:=List.all_eq_true.1 h s hs;simp only[decide_eq_true_eq] at this;unfold maxLen;omega
theorem T8(w:World)(ss:List ByteArray)(t:TypeId):L6 (w.alloc (.cells (ss.map Value.string).toArray t)) w.heap.size 0 ss:=λi s hs=>by
 have:((ss.map Value.string).toArray)[i]?=some (.string s):=by simp[hs]
 simp[go_sem,World.cell?_alloc_at,this]
theorem Rd.row{w w':World}{rb len N k:Nat}{v:Value}(h:Rd w rb v len N)(hg:w.grownBy w' (some k))(hk:rb<k):Rd w' rb v len N:=by
 have hlt:=h.lt;obtain⟨p,hp,c0,c1,f1,⟨a,cap,hv,hb⟩,hl⟩:=h;have hbl:=hg.block rb hlt (by simp;omega);refine⟨p,hp,(C2 (w:=w) (a:=⟨rb,0,none⟩) hbl).trans c0,(C2 (w:=w) (a:=⟨rb,1,none⟩) hbl).trans c1,(World.frozen?_of_block (w:=w) (a:=⟨rb,1,none⟩) hbl).trans f1,⟨a,cap,hv,?_⟩,hl⟩;rcases hb with hb|⟨b,o,z,ha,h1,hz⟩
 ·exact .inl hb
 ·exact .inr ⟨b,o,z,ha,h1,λi hi=>⟨hg.cell (hz i hi).1 (by simp;omega),(hz i hi).2⟩⟩
theorem Rd.own{w w':World}{rb len N base e size n:Nat}{v u:Value}{xs:List Value}(h:Rd w rb v len N)(hown:w.ownsRow base e size u n xs)(hg:w.grownBy w' u.ownBlock)(hk:rb<base):Rd w' rb v len N:=by
 have hlt:=h.lt;obtain⟨p,hp,c0,c1,f1,⟨a,cap,hv,hb⟩,hl⟩:=h;have hbl:=hg.block rb hlt (R3 hown hk);refine⟨p,hp,(C2 (w:=w) (a:=⟨rb,0,none⟩) hbl).trans c0,(C2 (w:=w) (a:=⟨rb,1,none⟩) hbl).trans c1,(World.frozen?_of_block (w:=w) (a:=⟨rb,1,none⟩) hbl).trans f1,⟨a,cap,hv,?_⟩,hl⟩;rcases hb with hb|⟨b,o,z,ha,h1,hz⟩
 ·exact .inl hb
 ·exact .inr ⟨b,o,z,ha,h1,λi hi=>⟨hg.cell (hz i hi).1 (R3 hown (b:=b) (by omega)),(hz i hi).2⟩⟩
theorem Rd.drew{w:World}{rb len N:Nat}{v:Value}(h:Rd w rb v len N):Rd w.drew rb v len N:=h
theorem Y4.cut{w:World}{rb n m:Nat}{a:Option Addr}{cap:Nat}(h:Y4 w rb (.slice a n cap) n)(hm:m<=n):Y4 w rb (.slice a m cap) m:=by
 obtain⟨a',cap',hv,h⟩:=h;cases hv
 refine⟨a,cap,rfl,?_⟩;rcases h with h|⟨b,o,z,ha,hb,hz⟩
 ·exact .inl (by omega)
 ·exact .inr ⟨b,o,z,ha,hb,λi hi=>hz i (by omega)⟩
theorem Y4.up{w w':World}{B rb len:Nat}{v:Value}(h:Y4 w B v len)(hg:Below B w w')(hB:B<=rb):Y4 w' rb v len:=by
 obtain⟨a,cap,hv,h⟩:=h;refine⟨a,cap,hv,?_⟩;rcases h with h|⟨b,o,z,ha,hb,hz⟩
 ·exact .inl h
 ·exact .inr ⟨b,o,z,ha,by omega,λi hi=>⟨(hg.cell (p:=⟨b,o+i,none⟩) hb).trans (hz i hi).1,(hz i hi).2⟩⟩
theorem Pn(w:World)(v:Value)(n:Nat)(t:TypeId)(h:Y4 w w.heap.size v n)(hn:n<=2000):Rd (w.alloc (.cells #[v,.int .i64 0] t)) w.heap.size v n 0 :=
 ⟨0,A3 _,by simp[go_sem],by simp[go_sem],by simp[go_sem],h.up ((A4 _ _).alloc (A3 _) _) (A3 _),hn⟩
def pk(hb:Nat->Bool)(l:List ByteArray):Nat->List ByteArray
 | 0=>[]
 | k+1=>pk hb l k++if hb k=true then [l.getD k ByteArray.empty] else []
theorem Po{hb hb':Nat->Bool}(l:List ByteArray):∀n,(∀k,k<n->hb k=hb' k)->pk hb l n=pk hb' l n
 | 0,_=>rfl
 | n+1,h=>by rw[pk,pk,Po l n λk hk=>h k (by omega),h n (by omega)]
theorem MZ(hb:Nat->Bool)(l:List ByteArray):∀n,(pk hb l n).length<=n
 | 0=>by simp[pk]
 | n+1=>by have:=MZ hb l n;rw[pk,A8];split<;>simp<;>omega
theorem UU{hb:Nat->Bool}{l:List ByteArray}:∀{n:Nat},n<=l.length->∀s∈pk hb l n,s∈l
 | 0,_,s,h=>by simp[pk] at h
 | n+1,hn,s,h=>by
  rw[pk,C6] at h;rcases h with h|h
  ·exact UU (by omega) s h
  ·split at h
   ·simp at h;subst h;rw[A0 (by omega)];exact List.getElem_mem _
   ·simp at h
noncomputable def EA:Code:=Tryz.f31.body.getD .skip
theorem Zw{s:Nat}(hs:s<4294967296)(k:Nat):(bits .and .u32 ((s:Int) / 2 ^ k) 1==1)=s.testBit k:=by
 have h1:((s:Int) / 2 ^ k)=((s / 2 ^ k:Nat):Int):=by simp
 have h2:s / 2 ^ k<4294967296:=Nat.lt_of_le_of_lt (Nat.div_le_self _ _) hs;rw[h1,show (1:Int)=((1:Nat):Int) from rfl,u32_and_nat _ _ h2 (by omega),Nat.and_one_is_mod,Nat.testBit_eq_decide_div_mod_eq];rw[Bool.eq_iff_iff];simp only[beq_iff_eq,decide_eq_true_eq];omega
noncomputable def RP:Code:=match EA with | .seq _ (.seq _ r)=>r|_=>.skip
theorem Xi(tb:Nat)(tg:List ByteArray)(ts:List Tr)(s:Nat)(fv:Value)(x9 x10 x11 x12 x13 x14 x15:Value)(w:World)(h:AK w tb tg ts)(h5:ts.length<=5)(hs:s<4294967296){R:Value->World->Prop}(HR:Hid (∀v w',E5 w' w.heap.size v (pk (λk=>s.testBit k) (ts.map (·.1.nm)) ts.length)->Below w.heap.size w w'->R v w')):
  RP.wp Tryz.prog (bodyPost Tryz.prog Tryz.f31 λe w'=>∃v,e=.returned v/\R v w')
   ⟨#[.pointer (some ⟨tb,0,none⟩),fv,undef,undef,.slice none 0 0,.int .u32 s,undef,undef,undef,x9,x10,x11,x12,x13,x14,x15,undef,undef,undef,undef,undef,undef,undef,undef,undef,undef,undef,undef,undef,undef,undef,undef,undef,undef,undef,undef,undef,undef],[]⟩ w:=by
 obtain⟨rv,hC,hown⟩:=h;obtain⟨t0,t1⟩:=hC.c2';obtain⟨ii,hi,iz0,iz1,iz2⟩:=info_parts Z0;have htl:=hC.2.2
 obtain⟨ra,rc,rfl⟩:∃ra rc,rv=.slice ra ts.length rc:=by
  rcases hown.2 with⟨h0,h1⟩|⟨g,cap,cur,hv,_⟩
  ·exact⟨none,0,by rw[h0,h1]⟩
  ·exact⟨_,_,hv⟩
 simp only[RP,EA,Tryz.f31,Option.getD_some];go_wp2_with fail;go_loopw [6,7,8,21] (λu _ _ i w'=>∃k:Nat,k<=ts.length/\i=.int .i64 k/\E5 w' w.heap.size u (pk (λk=>s.testBit k) (ts.map (·.1.nm)) k)/\Below w.heap.size w w') (λ_ _ _ i _=>ts.length-(intOf i).toNat)
 case atStart=>exact⟨0,by omega,rfl,⟨by simp[pk],.inl ⟨rfl,rfl⟩⟩,A4 _ _⟩
 case round =>
  obtain⟨k,hk,rfl,hown2,hB⟩:=hrel;by_cases hp:k<ts.length
  ·obtain⟨p,hpt⟩:∃p,ts[k]?=some p:=⟨_,A0 hp⟩;obtain⟨g,cap,hv⟩:=T7 hown (by omega);cases hv
   obtain⟨r0,r1,r2,r3⟩:=DM (P8 hown hB) hpt
   have Hn:Hid ((ts.map (·.1.nm)).getD k ByteArray.empty=p.1.nm):=by
    show _=_
    rw[List.getD_eq_getElem?_getD,A9,hpt];rfl
   have Hl:=MZ (λk=>s.testBit k) (ts.map (·.1.nm)) k;generalize p.1.nm=nm at *;generalize F0 tg (D2 p.1.has)=hb at *;generalize F0 tg (D2 p.1.nd)=nb at *;generalize p.2=gone at *;obtain⟨W1,hW1,kX,hB1,hs1⟩:=cbE1 wr [.string nm,.int .u64 (hb:Nat),.int .u64 (nb:Nat),.bool gone] 95;clear hown hC t0 t1;go_upto_region 6 with fail;try rw[hW1]
   clear hW1 r0 r1 r2 r3;have hneg:¬((k:Int)<0):=by omega
   have hbit:=Zw hs k;have HB1:Hid (Below w.heap.size w W1):=hB.trans (hB1.mono hB.size);have hown1:E5 W1 w.heap.size u6 (pk (λk=>s.testBit k) (ts.map (·.1.nm)) k):=E5.up hown2 hB1;clear hown2;cases ht:s.testBit k with
   | false =>
    rw[ht] at hbit
    have Hpk:Hid (pk (λk=>s.testBit k) (ts.map (·.1.nm)) (k+1)=pk (λk=>s.testBit k) (ts.map (·.1.nm)) k):=by
     show _=_
     rw[pk];simp[ht]
    clear ht;go_wp2_with fail;go_roundw
    case rel=>exact⟨k+1,by omega,by go_num,by rw[Hpk.out];exact hown1,HB1.out⟩
    case measure=>simp[intOf];omega
   | true =>
    rw[ht] at hbit
    have Hpk:Hid (pk (λk=>s.testBit k) (ts.map (·.1.nm)) (k+1)=pk (λk=>s.testBit k) (ts.map (·.1.nm)) k++[nm]):=by
     show _=_
     rw[pk];simp only[ht,if_true];rw[Hn.out]
    clear ht Hn;clear hs1;have e0:=kX.1 0 _ rfl;generalize pk (λk=>s.testBit k) (ts.map (·.1.nm)) k=pl at *;have hown3:=P8 hown1 ((A4 W1.heap.size W1).alloc (A3 _) (.cells #[.string nm] 9));have HB2:Hid (Below w.heap.size w (W1.alloc (.cells #[.string nm] 9))):=HB1.out.alloc HB1.out.size (.cells #[.string nm] 9);go_wp2_with (at_builtin;refine wpList_append_own _ rfl _ _ 23 rfl w.heap.size 9 ii _ 1 16 Tryz.underlying23 hi iz0 iz1 iz2 rfl (by decide) _ _ _ rfl hown3 ⟨W1.heap.size,0,none⟩ 1 1 [.string nm] rfl rfl (Z1 _ _ _) (CJ _) (by unfold maxLen;omega) (by omega) HB2.out.size ?_)
    intro v1 w1 hown4 hgrow4 _;have HB3:Hid (Below w.heap.size w w1):=N5 HB2.out hown3 hgrow4 (A3 _);clear hown1 hown3 hgrow4 e0 kX
    have Ho4:Hid (E5 w1 w.heap.size v1 (pk (λk=>s.testBit k) (ts.map (·.1.nm)) (k+1))):=by
     show E5 _ _ _ _
     rw[Hpk.out];unfold E5;rw[A8,List.map_append];exact hown4
    clear hown4;go_wp2_with fail;go_roundw
    case rel=>exact⟨k+1,by omega,by go_num,Ho4.out,HB3.out⟩
    case measure=>simp[intOf];omega
  ·have Ho:Hid (∀u,E5 wr w.heap.size u (pk (λk=>s.testBit k) (ts.map (·.1.nm)) k)->E5 wr w.heap.size u (pk (λk=>s.testBit k) (ts.map (·.1.nm)) ts.length)):=λu h=>by
    obtain rfl:k=ts.length:=by omega
    exact h
   go_wp2_with fail;go_ret;exact⟨_,rfl,HR.out _ _ (Ho.out _ hown2) hB⟩
end Go.Proofs.YtmfjakieahkacaaGreatDoor
namespace Go.Proofs.YtmfjakieahkacaaGreatDoor
def Oa(a:List ByteArray)(b:List ByteArray):List ByteArray:=b.foldl S4 a
theorem Mc:∀(x y:List UInt8),Op.bytesLess x y=decide (x<y)
 | [],[]=>by simp[Op.bytesLess]
 | _::_,[]=>by simp[Op.bytesLess]
 | [],_::_=>by simp[Op.bytesLess]
 | a::x,b::y=>by
  rw[Op.bytesLess,Mc x y];simp only[List.cons_lt_cons_iff];by_cases h1:a<b<;>by_cases h2:a=b<;>by_cases h3:x<y<;>simp[h1,h2,h3]
abbrev Pp:=List UInt8
theorem He(x:Pp):¬x<x:=List.lt_irrefl x
theorem Na{x y z:Pp}(h:x<y)(k:y<z):x<z:=List.lt_trans h k
theorem Zx(x y:Pp):x<y∨x=y∨y<x:=by
 rcases Decidable.em (x<y) with h|h
 ·exact .inl h
 ·rcases Decidable.em (y<x) with k|k
  ·exact .inr (.inr k)
  ·exact .inr (.inl (List.le_antisymm (List.not_lt.1 k) (List.not_lt.1 h)))
theorem KY:∀(a b:List Pp),a.Pairwise (· < ·)->b.Pairwise (· < ·)->(∀x,x∈a↔x∈b)->a=b
 | [],[],_,_,_=>rfl
 | [],y::s,_,_,h=>by have:=(h y).2 (by simp);simp at this
 | x::r,[],_,_,h=>by have:=(h x).1 (by simp);simp at this
 | x::r,y::s,ha,hb,h=>by
  obtain⟨ha1,ha2⟩:=List.pairwise_cons.1 ha;obtain⟨hb1,hb2⟩:=List.pairwise_cons.1 hb
  have e:x=y:=by
   rcases List.mem_cons.1 ((h x).1 (by simp)) with e|e
   ·exact e
   ·rcases List.mem_cons.1 ((h y).2 (by simp)) with e'|e'
    ·exact e'.symm
    ·exact absurd (Na (hb1 x e) (ha1 y e')) (He _)
  subst e;rw[KY r s ha2 hb2 λz=>?_];constructor
  ·intro hz;rcases List.mem_cons.1 ((h z).1 (by simp[hz])) with e|e
   ·subst e;exact absurd (ha1 z hz) (He _)
   ·exact e
  ·intro hz;rcases List.mem_cons.1 ((h z).2 (by simp[hz])) with e|e
   ·subst e;exact absurd (hb1 z hz) (He _)
   ·exact e
def Ak(ss:List ByteArray):List Pp:=ss.map (·.toList)
theorem Zy{a b:ByteArray}(h:a.toList=b.toList):a=b:=by
 rw[Go.ByteArray.toList_eq,Go.ByteArray.toList_eq] at h;cases a;cases b;simp at h;rw[h]
theorem Xj(ss:List ByteArray)(x:ByteArray):(∀z,z∈Ak (S4 ss x)↔z∈Ak ss∨z=x.toList)/\((Ak ss).Pairwise (· < ·)->(Ak (S4 ss x)).Pairwise (· < ·)):=by
 induction ss with
 | nil=>simp[S4,Ak]
 | cons y r ih =>
  obtain⟨im,ip⟩:=ih;rw[S4];by_cases h1:Ey y x=true
  ·rw[if_pos h1];have h1':y.toList<x.toList:=by rw[Ey,Mc] at h1;simpa using h1
   refine⟨λz=>?_,λhp=>?_⟩
   ·have:=im z;simp only[Ak,List.map_cons,List.mem_cons] at this ⊢
    rw[this];constructor
    ·rintro (h|h|h)
     ·exact .inl (.inl h)
     ·exact .inl (.inr h)
     ·exact .inr h
    ·rintro ((h|h)|h)
     ·exact .inl h
     ·exact .inr (.inl h)
     ·exact .inr (.inr h)
   ·simp only[Ak,List.map_cons] at hp ⊢
    obtain⟨p1,p2⟩:=List.pairwise_cons.1 hp;refine List.pairwise_cons.2 ⟨λz hz=>?_,ip p2⟩;rcases (im z).1 hz with h|h
    ·exact p1 z h
    ·subst h;exact h1'
  ·rw[if_neg h1];have h1':¬y.toList<x.toList:=by rw[Ey,Mc] at h1;simpa using h1
   by_cases h2:Ju y x=true
   ·rw[if_pos h2];have e:y.toList=x.toList:=by simpa [Ju] using h2
    refine⟨λz=>?_,λhp=>hp⟩;simp only[Ak,List.map_cons,List.mem_cons];rw[e];constructor
    ·exact .inl
    ·rintro (h|h)
     ·exact h
     ·exact .inl h
   ·rw[if_neg h2];have e:y.toList≠x.toList:=by simpa [Ju] using h2
    have lt:x.toList<y.toList:=by
     rcases Zx y.toList x.toList with k|k|k
     ·exact absurd k h1'
     ·exact absurd k e
     ·exact k
    refine⟨λz=>?_,λhp=>?_⟩
    ·simp only[Ak,List.map_cons,List.mem_cons];constructor
     ·rintro (h|h|h)
      ·exact .inr h
      ·exact .inl (.inl h)
      ·exact .inl (.inr h)
     ·rintro ((h|h)|h)
      ·exact .inr (.inl h)
      ·exact .inr (.inr h)
      ·exact .inl h
    ·simp only[Ak,List.map_cons] at hp ⊢
     refine List.pairwise_cons.2 ⟨λz hz=>?_,hp⟩;rcases List.mem_cons.1 hz with h|h
     ·subst h;exact lt
     ·exact Na lt ((List.pairwise_cons.1 hp).1 z h)
theorem UV(b:List ByteArray):∀a:List ByteArray,(∀z,z∈Ak (Oa a b)↔z∈Ak a∨z∈Ak b)/\((Ak a).Pairwise (· < ·)->(Ak (Oa a b)).Pairwise (· < ·)):=by
 induction b with
 | nil=>intro a;exact⟨λz=>by simp[Oa,Ak],λh=>h⟩
 | cons x r ih =>
  intro a;obtain⟨im,ip⟩:=ih (S4 a x);obtain⟨jm,jp⟩:=Xj a x;refine⟨λz=>?_,λh=>ip (jp h)⟩;have h1:=im z;have h2:=jm z;show z∈Ak (Oa (S4 a x) r)↔_
  rw[h1,h2];simp only[Ak,List.map_cons,List.mem_cons];constructor
  ·rintro ((h|h)|h)
   ·exact .inl h
   ·exact .inr (.inl h)
   ·exact .inr (.inr h)
  ·rintro (h|h|h)
   ·exact .inl (.inl h)
   ·exact .inl (.inr h)
   ·exact .inr h
def uniq(l:List Pp):List Pp:=Lib.compact (l.mergeSort λx y=>decide (x<=y))
end Go.Proofs.YtmfjakieahkacaaGreatDoor
namespace Go.Proofs.YtmfjakieahkacaaGreatDoor
open Go.RowKit
theorem CE(ss:List ByteArray)(v:Value)(w:World)(h:Ls w v ss)(hn:ss.length<=1048576):
  Calls Tryz.prog 42 #[v] w λe w'=>(∃u,e=.returned u/\E5 w' w.heap.size u ss/\NN u)/\Below w.heap.size w w':=by
 obtain⟨a,c,rfl,-,-,hpos⟩:=h;obtain⟨ii,hi,iz0,iz1,iz2⟩:=info_parts Z0;have ho:=BM w;have hb:=(A4 w.heap.size w).alloc (A3 _) (.cells #[] 9);rcases C3 ss.length with h0|h0
 ·obtain rfl:=C4.1 h0;simp only[List.length_nil];go_enter Tryz.func42,Tryz.ntmps42;go_wp2_with (at_builtin;refine IL _ rfl _ _ 23 rfl w.heap.size 9 ii 1 Tryz.underlying23 hi _ 0 [] rfl ho a c rfl ?_)
  go_ret;exact⟨⟨_,rfl,ho,_,_,_,rfl⟩,hb⟩
 ·obtain⟨g,o,rfl,hS,hg⟩:=hpos h0;have hn1:=BE (hS.alloc (.cells #[] 9));go_enter Tryz.func42,Tryz.ntmps42;go_wp2_with (at_builtin;refine wpList_append_own _ rfl _ _ 23 rfl w.heap.size 9 ii _ 1 16 Tryz.underlying23 hi iz0 iz1 iz2 rfl (by decide) _ 0 [] rfl ho ⟨g,o,none⟩ ss.length c (ss.map Value.string) rfl (by simp) hn1 (IA ss) (by unfold maxLen;omega) (by omega) hb.size ?_)
  intro v1 w1 hown1 hgr1 _;have hB1:=N5 hb ho hgr1 (A3 _);have ho1:E5 w1 w.heap.size v1 ss:=by unfold E5;simpa using hown1
  obtain⟨g1,k1,rfl⟩:=T7 ho1 h0;clear hown1 hgr1 ho hb hn1;go_wp2_with fail;go_ret;exact⟨⟨_,rfl,ho1,_,_,_,rfl⟩,hB1⟩
theorem FG(b:Bk)(v:Value)(s:ByteArray)(w:World)(h:K0 w v b):
  Calls Tryz.prog 19 #[v,.string s] w λe w'=>e=.returned (.int .i64 (Z7 (I9 b.bs) s))/\Below w.heap.size w w':=by
 obtain⟨a1,c1,a2,c2,rfl,h1,h2⟩:=h.parts;have hC:CB (w.alloc (.cells #[.slice a1 (b).tg.length c1,.slice a2 (b).bs.length c2] 26)) w.heap.size [.slice a1 b.tg.length c1,.slice a2 b.bs.length c2]:=T6 w _ _;have hB0:=(A4 w.heap.size w).alloc (A3 _) (.cells #[.slice a1 (b).tg.length c1,.slice a2 (b).bs.length c2] 26);have g2:=h2.at.1;unfold maxLen at g2;go_enter Tryz.func19,Tryz.ntmps19;go_upto_region 1 with fail;generalize w.alloc (.cells #[.slice a1 (b).tg.length c1,.slice a2 (b).bs.length c2] 26)=W1 at *;have l2:=h2.up hB0;clear h h1 h2;obtain⟨e0,e1⟩:=hC.c2';obtain⟨-,hpos⟩:=l2.at;go_wp2_with fail;go_loop [5] (λi=>∃k:Nat,k<=b.bs.length/\i=.int .i64 k/\D2 ((I9 b.bs).take k) s=false) (λi=>b.bs.length-(intOf i).toNat)
 case atStart=>exact⟨0,by omega,rfl,rfl⟩
 case round =>
  obtain⟨k,hk,rfl,hal⟩:=hrel;have Hal:Hid (D2 ((I9 b.bs).take k) s=false):=hal;clear hal;by_cases hp:k<b.bs.length
  ·obtain⟨bb,o,rfl,hS,hb⟩:=hpos (by omega);obtain⟨a3,d3,a4,d4,c3,c4,c5,-,-,-⟩:=(hS.at hp).cells;have hp':k<(I9 b.bs).length:=by rw[O1];exact hp
   have Hn:Hid ((I9 b.bs)[k]=(b.bs[k]).nm):=BF b.bs k hp;cases hq:((b.bs[k]).nm.toList==s.toList)
   ·have Hq:Hid (D2 ((I9 b.bs).take (k+1)) s=false):=EH hp' Hal.out (by rw[Hn.out];exact hq);generalize b.bs[k]=x0 at *;go_wp2_with fail;go_round
    case rel=>exact⟨k+1,by omega,by go_num,Hq.out⟩
    case measure=>simp[intOf];omega
   ·have Hq:Hid (Z7 (I9 b.bs) s=(k:Int)):=EX hp' Hal.out (by rw[Hn.out];exact hq);generalize b.bs[k]=x0 at *;go_wp2_with fail;go_ret;exact⟨Fl Hq.out.symm,hB0⟩
  ·have Hq:Hid (Z7 (I9 b.bs) s=-1):=BH (Fw (by rw[O1];exact hp) Hal.out);go_wp2_with fail;go_ret;exact⟨Fl Hq.out.symm,hB0⟩
theorem Pq(ss:List ByteArray)(v:Value)(nm:ByteArray)(w:World)(h:Fv w v ss)(hn:ss.length<=1000):
  Calls Tryz.prog 22 #[v,.string nm] w λe w'=>(∃u,e=.returned u/\Fv w' u (S4 ss nm)/\(u=v/\S4 ss nm=ss∨E5 w' w.heap.size u (S4 ss nm)))/\Below w.heap.size w w':=by
 have hT:=h;obtain⟨g,c,rfl,hS,hg,hc,hc9⟩:=h;unfold maxLen at hc9;obtain⟨ii,hi,iz0,iz1,iz2⟩:=info_parts Z0;have HT:Hid (Fv w (.slice (some ⟨g,0,none⟩) ss.length c) ss):=hT;clear hT;go_enter Tryz.func22,Tryz.ntmps22;go_wp2_with fail;go_loop [5] (λi=>∃k:Nat,k<=ss.length/\i=.int .i64 k/\Ma ss nm k) (λi=>ss.length-(intOf i).toNat)
 case atStart=>exact⟨0,by omega,rfl,λj s hj=>by omega⟩
 case round =>
  obtain⟨k,hk,rfl,hlow⟩:=hrel;have Hlow:Hid (Ma ss nm k):=hlow;clear hlow;by_cases hp:k<ss.length
  ·have c0:=hS k ss[k] (by simp[hp]);simp only[Nat.zero_add] at c0;cases hl:Op.bytesLess (ss[k]).toList nm.toList
   case true =>
    have Hl:Hid (Ey ss[k] nm=true):=hl;go_wp2_with fail;go_round
    case rel=>exact⟨k+1,by omega,by go_num,UQ Hlow.out hp Hl.out⟩
    case measure=>simp[intOf];omega
   have Hl:Hid (Ey ss[k] nm=false):=hl;cases hq:((ss[k]).toList==nm.toList)
   case true =>
    have Hq:Hid (S4 ss nm=ss):=Pj ss nm k Hlow.out ⟨ss[k],by simp[hp],Hl.out,hq⟩;go_wp2_with fail;go_ret;exact⟨⟨_,rfl,by rw[Hq.out];exact HT.out,.inl ⟨rfl,Hq.out⟩⟩,A4 _ _⟩
   have Hq:Hid (S4 ss nm=ss.take k++nm::ss.drop k):=Ko ss nm k Hlow.out hk (λs hs=>by
    obtain⟨_,rfl⟩:=A2.1 hs;exact⟨Hl.out,hq⟩)
   go_wp2_with fail
   obtain⟨o2,ho2⟩:∃o2:Nat,(if c=k then some (⟨g,0,none⟩:Addr) else some ⟨g,k,none⟩)=some ⟨g,o2,none⟩/\L6 w g o2 (ss.drop k):=by
    by_cases h7:c=k
    ·exact⟨0,by rw[if_pos h7],λi s hs=>by
      have:=(A2.1 hs).1;simp at this;omega⟩
    ·exact⟨k,by rw[if_neg h7],by have:=hS.drop k;simpa using this⟩
   obtain⟨ho2,-⟩:=ho2;have Nb:((w.alloc (.cells #[] 9)).alloc (.cells #[.string nm] 9)).drew.cell? ⟨w.heap.size+1,0,none⟩=some (.string nm):=by simp[go_sem]
   have nb1:some (w.heap.size+1)≠(Value.slice (some ⟨w.heap.size,0,none⟩) 0 0).ownBlock:=by simp[Value.ownBlock]
   have Nc:((w.alloc (.cells #[.string nm] 9)).alloc (.cells #[] 9)).drew.cell? ⟨w.heap.size,0,none⟩=some (.string nm):=by simp[go_sem]
   have nc1:some w.heap.size≠(Value.slice (some ⟨w.heap.size+1,0,none⟩) 0 0).ownBlock:=by simp[Value.ownBlock]
   have hkc:k<=c:=by omega
   have Fa:=(GF hS (A4 w.heap.size w)).drew;have Fb:=((GF hS (A4 w.heap.size w)).alloc (.cells #[.string nm] 9)).drew;have Fc:=(GF (hS.alloc (.cells #[.string nm] 9)) ((A4 w.heap.size w).alloc (A3 _) (.cells #[.string nm] 9))).drew;rw[show (w.alloc (.cells #[.string nm] 9)).heap.size=w.heap.size+1 by simp] at Fc
   go_region_law (first
    | (revert h2;intro h2;refine O0 rfl _ _ 23 rfl w.heap.size 9 ii _ 1 16 Tryz.underlying23 hi iz0 iz1 iz2 rfl (by decide) _ _ _ rfl h2.1 ⟨g,o2,none⟩ (ss.length-k) _ ((ss.drop k).map Value.string) rfl (by simp) (BE (MX h2.2.1 ho2 hc)) (IA _) (by unfold maxLen;omega) (by omega) h2.2.2.size ?_;intro v3 w3 hown3 hgrow3;have h3:=h2.grow hg hgrow3 hown3;clear h2 hown3 hgrow3)
    | (revert h1;intro h1;refine O0 rfl _ _ 23 rfl w.heap.size 9 ii _ 1 16 Tryz.underlying23 hi iz0 iz1 iz2 rfl (by decide) _ _ _ rfl (by first|exact h1.1|exact (h1.alloc _).1) _ 1 1 [.string nm] rfl rfl (by first|exact Z1 _ _ _|exact Rp hN1) (CJ nm) (by unfold maxLen;omega) (by omega) (by first|exact h1.2.2.size|exact (h1.alloc _).2.2.size) ?_;intro v2 w2 hown2 hgrow2;first|have h2:=h1.grow hg hgrow2 hown2|have h2:=(h1.alloc _).grow hg hgrow2 hown2;clear h1 hown2 hgrow2)
    | (refine O0 rfl _ _ 23 rfl w.heap.size 9 ii _ 1 16 Tryz.underlying23 hi iz0 iz1 iz2 rfl (by decide) _ 0 [] rfl (by first|exact Fa.1|exact Fb.1|exact Fc.1) ⟨g,0,none⟩ k _ ((ss.take k).map Value.string) rfl (by simp;omega) (by first|exact BE (Fa.2.1.take k)|exact BE (Fb.2.1.take k)|exact BE (Fc.2.1.take k)) (IA _) (by unfold maxLen;omega) (by omega) (by first|exact Fa.2.2.size|exact Fb.2.2.size|exact Fc.2.2.size) ?_;intro v1 w1 hown1 hgrow1;first|(have h1:=Fa.grow hg hgrow1 hown1)|(have h1:=Fb.grow hg hgrow1 hown1;have hN1:=hgrow1.cell Nb nb1)|(have h1:=Fc.grow hg hgrow1 hown1;have hN1:=hgrow1.cell Nc nc1);clear hown1 hgrow1))
   all_goals
    have HT3:Fv w3 v3 (S4 ss nm):=by
     rw[Hq.out];exact Fv.own (n:=0+k+1+(ss.length-k)) (by simpa using h3.1) (by simp;omega) (T7 h3.1 (by omega))
    have hO3:E5 w3 w.heap.size v3 (S4 ss nm):=by
     unfold E5;rw[Hq.out];have:=h3.1;have e1:(ss.take k++nm::ss.drop k).length=0+k+1+(ss.length-k):=by simp;omega
     rw[e1];simpa using this
    have hB3:=h3.2.2;clear h3;go_wp2_with fail;go_ret;exact⟨⟨_,rfl,HT3,.inr hO3⟩,hB3⟩
  ·have Hq:Hid (S4 ss nm=ss.take k++nm::ss.drop k):=Ko ss nm k Hlow.out hk (λs hs=>by
    have:=(A2.1 hs).1;omega)
   go_wp2_with fail
   obtain⟨o2,ho2⟩:∃o2:Nat,(if c=k then some (⟨g,0,none⟩:Addr) else some ⟨g,k,none⟩)=some ⟨g,o2,none⟩/\L6 w g o2 (ss.drop k):=by
    by_cases h7:c=k
    ·exact⟨0,by rw[if_pos h7],λi s hs=>by
      have:=(A2.1 hs).1;simp at this;omega⟩
    ·exact⟨k,by rw[if_neg h7],by have:=hS.drop k;simpa using this⟩
   obtain⟨ho2,-⟩:=ho2;have Nb:((w.alloc (.cells #[] 9)).alloc (.cells #[.string nm] 9)).drew.cell? ⟨w.heap.size+1,0,none⟩=some (.string nm):=by simp[go_sem]
   have nb1:some (w.heap.size+1)≠(Value.slice (some ⟨w.heap.size,0,none⟩) 0 0).ownBlock:=by simp[Value.ownBlock]
   have Nc:((w.alloc (.cells #[.string nm] 9)).alloc (.cells #[] 9)).drew.cell? ⟨w.heap.size,0,none⟩=some (.string nm):=by simp[go_sem]
   have nc1:some w.heap.size≠(Value.slice (some ⟨w.heap.size+1,0,none⟩) 0 0).ownBlock:=by simp[Value.ownBlock]
   have hkc:k<=c:=by omega
   have Fa:=(GF hS (A4 w.heap.size w)).drew;have Fb:=((GF hS (A4 w.heap.size w)).alloc (.cells #[.string nm] 9)).drew;have Fc:=(GF (hS.alloc (.cells #[.string nm] 9)) ((A4 w.heap.size w).alloc (A3 _) (.cells #[.string nm] 9))).drew;rw[show (w.alloc (.cells #[.string nm] 9)).heap.size=w.heap.size+1 by simp] at Fc
   go_region_law (first
    | (revert h2;intro h2;refine O0 rfl _ _ 23 rfl w.heap.size 9 ii _ 1 16 Tryz.underlying23 hi iz0 iz1 iz2 rfl (by decide) _ _ _ rfl h2.1 ⟨g,o2,none⟩ (ss.length-k) _ ((ss.drop k).map Value.string) rfl (by simp) (BE (MX h2.2.1 ho2 hc)) (IA _) (by unfold maxLen;omega) (by omega) h2.2.2.size ?_;intro v3 w3 hown3 hgrow3;have h3:=h2.grow hg hgrow3 hown3;clear h2 hown3 hgrow3)
    | (revert h1;intro h1;refine O0 rfl _ _ 23 rfl w.heap.size 9 ii _ 1 16 Tryz.underlying23 hi iz0 iz1 iz2 rfl (by decide) _ _ _ rfl (by first|exact h1.1|exact (h1.alloc _).1) _ 1 1 [.string nm] rfl rfl (by first|exact Z1 _ _ _|exact Rp hN1) (CJ nm) (by unfold maxLen;omega) (by omega) (by first|exact h1.2.2.size|exact (h1.alloc _).2.2.size) ?_;intro v2 w2 hown2 hgrow2;first|have h2:=h1.grow hg hgrow2 hown2|have h2:=(h1.alloc _).grow hg hgrow2 hown2;clear h1 hown2 hgrow2)
    | (refine O0 rfl _ _ 23 rfl w.heap.size 9 ii _ 1 16 Tryz.underlying23 hi iz0 iz1 iz2 rfl (by decide) _ 0 [] rfl (by first|exact Fa.1|exact Fb.1|exact Fc.1) ⟨g,0,none⟩ k _ ((ss.take k).map Value.string) rfl (by simp;omega) (by first|exact BE (Fa.2.1.take k)|exact BE (Fb.2.1.take k)|exact BE (Fc.2.1.take k)) (IA _) (by unfold maxLen;omega) (by omega) (by first|exact Fa.2.2.size|exact Fb.2.2.size|exact Fc.2.2.size) ?_;intro v1 w1 hown1 hgrow1;first|(have h1:=Fa.grow hg hgrow1 hown1)|(have h1:=Fb.grow hg hgrow1 hown1;have hN1:=hgrow1.cell Nb nb1)|(have h1:=Fc.grow hg hgrow1 hown1;have hN1:=hgrow1.cell Nc nc1);clear hown1 hgrow1))
   all_goals
    have HT3:Fv w3 v3 (S4 ss nm):=by
     rw[Hq.out];exact Fv.own (n:=0+k+1+(ss.length-k)) (by simpa using h3.1) (by simp;omega) (T7 h3.1 (by omega))
    have hO3:E5 w3 w.heap.size v3 (S4 ss nm):=by
     unfold E5;rw[Hq.out];have:=h3.1;have e1:(ss.take k++nm::ss.drop k).length=0+k+1+(ss.length-k):=by simp;omega
     rw[e1];simpa using this
    have hB3:=h3.2.2;clear h3;go_wp2_with fail;go_ret;exact⟨⟨_,rfl,HT3,.inr hO3⟩,hB3⟩
end Go.Proofs.YtmfjakieahkacaaGreatDoor
