/- The program's table, built (chapter 12). -/
import Derived.Test.YtebfdccbmmpceaaGreatDoorJ19
import Derived.Test.YtebfdccbmmpceaaGreatDoorJ4
set_option maxRecDepth 20000
set_option maxHeartbeats 4000000
namespace Go.Proofs.YtebfdccbmmpceaaGreatDoor
open Go.RowKit
theorem AnY:(Tryz.prog.info? 300).map (λi=>(i.zero,i.size,i.bytes))=some (some (.agg #[.string ⟨#[]⟩,.int .u64 0,.int .u64 0,.bool false]),4,40):=by kernel_rfl
def ts0 (bs:List Ba) (k:Nat):List Tr:=(bs.take k).map λx=>(x,false)
theorem AiN (bs:List Ba) (k:Nat):(ts0 bs k).map (·.1)=bs.take k:=by rw[ts0,List.map_map];exact List.map_id _
theorem Ae8 {bs:List Ba} {k:Nat} (h:k<=bs.length):(ts0 bs k).length=k:=by simp[ts0];omega
theorem AgO {bs:List Ba} {k:Nat} (h:k<bs.length):ts0 bs (k+1)=ts0 bs k++[(bs[k],false)]:=by
 rw[ts0,A7 h,List.map_append];rfl
theorem AnZ {bs:List Ba} {k:Nat} (h:¬k<bs.length):ts0 bs k=ts0 bs bs.length:=by
 rw[ts0,ts0,D3 (by omega),List.take_length]
theorem Ali (things:List ByteArray) (bs:List Ba):bitsN things (memS things)=bitsN things (freeL (ts0 bs 0)):=X9 λt ht=>by
 rw[(K1 _ _).2 ht];rfl
theorem hnew4 (w:World) (x y z u:Value) (ty:TypeId) {j:Nat} {v:Value} (h:[x,y,z,u][j]?=some v):(w.alloc (.cells #[x,y,z,u] ty)).cell? ((⟨w.heap.size,0,none⟩:Addr).add j)=some v:=by
 have:=(E7 w [x,y,z,u] ty).1 j v h;rw[Addr.add_mid];exact this
theorem AhQ (b:Bk) (v:Value) (w:World) (h:BkV w v b) (hok:BookOk b) :
  Calls Tryz.prog 213 #[v] w λe w'=>(∃tb,e=.returned (.pointer (some ⟨tb,0,none⟩))/\Tab w' tb b.things (ts0 b.bs b.bs.length)/\w.heap.size<=tb)/\Below w.heap.size w w':=by
 obtain⟨a1,c1,a2,c2,rfl,h1,h2⟩:=h.parts;have h8:=hok.1.1;have h5:=hok.2.1;have Ha:Hid (Apart b.bs):=hok.2.2.2.2.2;obtain⟨W1,hW1,kA,hB1,hs1⟩:=K9 w [.slice a1 (b).things.length c1,.slice a2 (b).bs.length c2] 33;have hz1:=hB1.size;clear hs1;obtain⟨ii,hi,iz0,iz1,iz2⟩:=info_parts AnY;have Hf0:Hid (bitsN b.things (memS b.things)=bitsN b.things (freeL (ts0 b.bs 0))):=Ali _ _;clear hok;go_enter Tryz.func213,Tryz.ntmps213
 go_upto_region 1 with fail
 try rw[hW1]
 clear hW1;have l1:=h1.up hB1;have l2:=h2.up hB1;obtain⟨e0,e1⟩:=kA.c2';have hlt:=kA.2.2;obtain⟨-,hpos⟩:=l2.at;clear h h1 h2;go_wp2_with fail
 refine (Ac4 b.things b.things _ _ _ l1 l1 h8).mono ?_;rintro e w' ⟨rfl,hw⟩;obtain rfl:=hw.symm;clear hw;rw[Hf0.out];obtain⟨W2,hW2,kT,hb2,hs2⟩:=K9 W1 [.slice none 0 0,.int .u64 (bitsN b.things (freeL (ts0 b.bs 0)):Nat)] 303;go_upto_region 2 with fail
 try rw[hW2]
 clear hW2;have hT0:Tab W2 W1.heap.size b.things (ts0 b.bs 0):=⟨_,kT,by simp[rowsL,ts0],.inl ⟨rfl,rfl⟩⟩;have g1:=(hb2.cell (p:=⟨w.heap.size,1,none⟩) hlt).trans e1;clear kT;go_wp2_with fail
 clear g1;go_loopw [5,6,17] (λ_ _ i w'=>∃k:Nat,k<=b.bs.length/\i=.int .i64 k/\Tab w' W1.heap.size b.things (ts0 b.bs k)/\Below W1.heap.size W1 w') (λ_ _ i _=>b.bs.length-(intOf i).toNat)
 case atStart=>exact⟨0,by omega,rfl,hT0,hb2⟩
 case round =>
  clear hT0 hb2 hs2;obtain⟨k,hk,rfl,hT,hB⟩:=hrel;by_cases hp:k<b.bs.length
  ·obtain⟨bb,o,rfl,hS,hb⟩:=hpos (by omega)
   obtain⟨a3,d3,a4,d4,c3,c4,c5,l3,l4,-⟩:=(hS.at hp).cells;have c3:=(hB.cell (p:=⟨bb,o+k*3,none⟩) hb).trans c3;have c4:=(hB.cell (p:=⟨bb,o+k*3+1,none⟩) hb).trans c4;have c5:=(hB.cell (p:=⟨bb,o+k*3+2,none⟩) hb).trans c5
   have HF:Hid (bitsN b.things (freeL (ts0 b.bs k))=bitsN b.things (memS (b.bs[k]).has)+bitsN b.things (freeL (ts0 b.bs (k+1)))):=by
    show _=_
    rw[AgO hp];exact Ak6 Ha.out hp (AiN _ _) _
   have HR:Hid (rowsL b.things (ts0 b.bs (k+1))=rowsL b.things (ts0 b.bs k)++rowC b.things (b.bs[k],false)):=by
    show _=_
    rw[AgO hp,Aeu]
   have hlk:(ts0 b.bs k).length=k:=Ae8 (by omega);have hlk1:(ts0 b.bs (k+1)).length=k+1:=Ae8 (by omega);generalize b.bs[k]=x0 at *;obtain⟨W3,hW3,kX,hb3,hs3⟩:=K9 wr [.string (x0).nm,.slice a3 (x0).has.length d3,.slice a4 (x0).needs.length d4] 128;go_upto_region 5 with fail
   try rw[hW3]
   have hB3:=D6 hB hb3;have hT3:=hT.up hb3;have htl:=hT.lt;obtain⟨⟨x0c,x1c,x2c⟩,-⟩:=kX.c3;have f0:=(hB3.cell (p:=⟨w.heap.size,0,none⟩) hlt).trans e0;clear hW3 c3 c4 c5 hb3 hT hB hS;generalize wr.heap.size=xb at *;clear hs3;have hxl:=kX.2.2;have mk:∀w',Below W3.heap.size W3 w'->Below W1.heap.size W1 w'/\w'.cell? ⟨w.heap.size,0,none⟩=some (.slice a1 b.things.length c1)/\w'.cell? ⟨xb,0,none⟩=some (.string x0.nm)/\w'.cell? ⟨xb,1,none⟩=some (.slice a3 x0.has.length d3)/\w'.cell? ⟨xb,2,none⟩=some (.slice a4 x0.needs.length d4):=λw' hb=>⟨D6 hB3 hb,(hb.cell (p:=⟨w.heap.size,0,none⟩) (A1 hlt hB3.size)).trans f0,(hb.cell (p:=⟨xb,0,none⟩) hxl).trans x0c,(hb.cell (p:=⟨xb,1,none⟩) hxl).trans x1c,(hb.cell (p:=⟨xb,2,none⟩) hxl).trans x2c⟩;go_wp2_with fail
   go_region_held (λw'=>Below W1.heap.size W1 w'/\w'.cell? ⟨w.heap.size,0,none⟩=some (.slice a1 b.things.length c1)/\w'.cell? ⟨xb,0,none⟩=some (.string x0.nm)/\w'.cell? ⟨xb,1,none⟩=some (.slice a3 x0.has.length d3)/\w'.cell? ⟨xb,2,none⟩=some (.slice a4 x0.needs.length d4)) (first|exact mk _ (A4 _ _).drew|exact mk _ (((A4 _ _).alloc (A3 _) _).drew)|exact mk _ (by go_grown))
    (first
     | (go_at_call_of 228 (Value.slice a3 x0.has.length d3);refine (Ac4 b.things x0.has _ _ _ (l1.up (And.left (by assumption))) (l3.up (And.left (by assumption))) h8).mono ?_;rintro e w' ⟨rfl,hw⟩;obtain rfl:=hw.symm;clear hw)
     | (go_at_call_of 228 (Value.slice a4 x0.needs.length d4);refine (Ac4 b.things x0.needs _ _ _ (l1.up (And.left (by assumption))) (l4.up (And.left (by assumption))) h8).mono ?_;rintro e w' ⟨rfl,hw⟩;obtain rfl:=hw.symm;clear hw))
   all_goals
    have hb4:=((A4 W3.heap.size W3).alloc (A3 _) (.cells #[.string x0.nm,.int .u64 (bitsN b.things (memS x0.has):Nat),.int .u64 (bitsN b.things (memS x0.needs):Nat),.bool false] 300)).drew;have kR:CB (W3.alloc (.cells #[.string x0.nm,.int .u64 (bitsN b.things (memS x0.has):Nat),.int .u64 (bitsN b.things (memS x0.needs):Nat),.bool false] 300)).drew W3.heap.size [.string x0.nm,.int .u64 (bitsN b.things (memS x0.has):Nat),.int .u64 (bitsN b.things (memS x0.needs):Nat),.bool false]:=E7 W3 _ _;generalize (W3.alloc (.cells #[.string x0.nm,.int .u64 (bitsN b.things (memS x0.has):Nat),.int .u64 (bitsN b.things (memS x0.needs):Nat),.bool false] 300)).drew=W4 at *;have hB4:=D6 hB3 hb4;obtain⟨rv,kT,hown⟩:=hT3.up hb4;rw[hlk] at hown;have hz3:=hB3.size;have n1:=L7 h8 (memS x0.has);have n2:=L7 h8 (memS x0.needs);have n3:=L7 h8 (freeL (ts0 b.bs k));have hF:=HF.out;have HE:Hid (∀W v1,CB W W1.heap.size [v1,.int .u64 (bitsN b.things (freeL (ts0 b.bs (k+1))):Nat)]->W.ownsRow (W1.heap.size+1) 300 4 v1 (k+1) (rowsL b.things (ts0 b.bs k)++[.string x0.nm,.int .u64 (bitsN b.things (memS x0.has):Nat),.int .u64 (bitsN b.things (memS x0.needs):Nat),.bool false])->Tab W W1.heap.size b.things (ts0 b.bs (k+1))):=λW v1 q1 q2=>⟨v1,q1,by rw[hlk1,HR.out];exact q2⟩;clear hT3 mk f0 x0c x1c x2c kX HR HF hB3 hb4 hlk hlk1;generalize bitsN b.things (memS x0.has)=hbn at *;generalize bitsN b.things (memS x0.needs)=nbn at *;generalize bitsN b.things (freeL (ts0 b.bs k))=fb at *;generalize bitsN b.things (freeL (ts0 b.bs (k+1)))=fb2 at *;generalize rowsL b.things (ts0 b.bs k)=rws at *;have hsub:IntKind.u64.wrap ((fb:Int)-(hbn:Int))=(fb2:Int):=by rw[Aaj (by omega) (by omega)];omega
    have hsub2:(fb:Int)-(hbn:Int)=(fb2:Int):=by omega
    clear hF;obtain⟨⟨t0,t1⟩,u0,u1⟩:=kT.c2;have r0:=kR.1 0 _ rfl;have r1:=kR.1 1 _ rfl;have r2:=kR.1 2 _ rfl;have r3:=kR.1 3 _ rfl;simp only[Nat.zero_add] at r0 r1 r2 r3;have hrl:=kR.2.2;generalize W3.heap.size=rb at *;have hne1:rb≠W1.heap.size:=by omega
    go_wp2_with fail
    go_region
    have kT5:CB (W4.setCell ⟨W1.heap.size,1,none⟩ (.int .u64 (fb2:Nat))).drew W1.heap.size [rv,.int .u64 (fb2:Nat)]:=kT.set (j:=1) (by simp);have hown5:(W4.setCell ⟨W1.heap.size,1,none⟩ (.int .u64 (fb2:Nat))).drew.ownsRow (W1.heap.size+1) 300 4 rv k rws:=E9 hown (U9 (E0 (E4 _ _) _)) (by omega);have kR5:CB (W4.setCell ⟨W1.heap.size,1,none⟩ (.int .u64 (fb2:Nat))).drew rb [.string x0.nm,.int .u64 (hbn:Nat),.int .u64 (nbn:Nat),.bool false]:=kR.other (by omega);have hB5:Below W1.heap.size W1 (W4.setCell ⟨W1.heap.size,1,none⟩ (.int .u64 (fb2:Nat))).drew:=(hB4.setCell (p:=⟨W1.heap.size,1,none⟩) (A3 _) _).drew;clear t0 t1 u0 u1 r0 r1 r2 r3 kT kR hown hB4 hsub hsub2;generalize (W4.setCell ⟨W1.heap.size,1,none⟩ (.int .u64 (fb2:Nat))).drew=W5 at *;obtain⟨⟨t0,t1⟩,u0,u1⟩:=kT5.c2;have r0:=kR5.1 0 _ rfl;have r1:=kR5.1 1 _ rfl;have r2:=kR5.1 2 _ rfl;have r3:=kR5.1 3 _ rfl;simp only[Nat.zero_add] at r0 r1 r2 r3;have htl5:=kT5.2.2;have hownA:=E1 (W:=W5.drew) hown5 ((A4 W5.heap.size W5.drew).alloc (A3 _) (.cells #[.string x0.nm,.int .u64 (hbn:Nat),.int .u64 (nbn:Nat),.bool false] 300));have hBA:=(hB5.drew).alloc hB5.drew.size (.cells #[.string x0.nm,.int .u64 (hbn:Nat),.int .u64 (nbn:Nat),.bool false] 300);have kTA:CB (W5.drew.alloc (.cells #[.string x0.nm,.int .u64 (hbn:Nat),.int .u64 (nbn:Nat),.bool false] 300)) W1.heap.size [rv,.int .u64 (fb2:Nat)]:=CB.up (w:=W5.drew) kT5 ((A4 W5.heap.size W5.drew).alloc (A3 _) _) htl5;go_wp2_with fail
    go_region_law (refine F6 rfl _ _ 301 rfl (W1.heap.size+1) 300 ii _ 4 40 Tryz.underlying301 hi iz0 iz1 iz2 rfl (by decide) _ _ _ rfl hownA ⟨W5.heap.size,0,none⟩ 1 1 [.string x0.nm,.int .u64 (hbn:Nat),.int .u64 (nbn:Nat),.bool false] rfl rfl (λj u hj=>hnew4 W5.drew _ _ _ _ _ hj) (by simp[Value.oneCell']) (by unfold maxLen;omega) (by omega) (by simp;omega) ?_;intro v1 w1 hown1 hgr1;obtain⟨gg,cc,rfl⟩:=F4 hown1 (by omega);have kT6:=kTA.kept hgr1 (X8 hownA (by omega));obtain⟨⟨z0,z1⟩,y0,y1⟩:=kT6.c2)
    all_goals
     have hB6:=I3 hBA hownA hgr1 (by omega);have kT7:CB (w1.setCell ⟨W1.heap.size,0,none⟩ (.slice (some ⟨gg,0,none⟩) (k+1) cc)) W1.heap.size [.slice (some ⟨gg,0,none⟩) (k+1) cc,.int .u64 (fb2:Nat)]:=kT6.set (j:=0) (by simp);have hown7:=E9 hown1 (E0 (off:=0) (E4 w1 (some W1.heap.size)) (.slice (some ⟨gg,0,none⟩) (k+1) cc)) (by omega);have hB7:=hB6.setCell (p:=⟨W1.heap.size,0,none⟩) (A3 _) (.slice (some ⟨gg,0,none⟩) (k+1) cc);have HT7:Hid (Tab (w1.setCell ⟨W1.heap.size,0,none⟩ (.slice (some ⟨gg,0,none⟩) (k+1) cc)) W1.heap.size b.things (ts0 b.bs (k+1))):=HE.out _ _ kT7 hown7;clear kT7 hown7 hown1 hgr1 kT6 z0 z1 y0 y1 hownA hBA kTA r0 r1 r2 r3 t0 t1 u0 u1 hB6 kT5 hown5 kR5 HE;go_wp2_with fail
     go_roundw
     case rel=>exact⟨k+1,by omega,by go_num,HT7.out,hB7⟩
     case measure=>simp[intOf];omega
  ·have Hs:Hid (ts0 b.bs k=ts0 b.bs b.bs.length):=AnZ hp
   go_wp2_with fail
   go_ret
   exact⟨⟨_,rfl,by rw[← Hs.out];exact hT,by omega⟩,D6 hB1 hB⟩
def GoneIs (ts:List Tr) (gone:List ByteArray):Prop:=∀(i:Nat) (p:Tr),ts[i]?=some p->p.2=memS gone p.1.nm
theorem Alj (l:List ByteArray) (s t:ByteArray):memS (l++[s]) t=(memS l t || (s.toList==t.toList)):=by simp[memS]
theorem Alk {bs:List Ba} (ha:Asc (nms bs)) {ts:List Tr} (h:ts.map (·.1)=bs) {gone:List ByteArray} (hG:GoneIs ts gone) {n:Nat} {p:Tr} (hp:ts[n]?=some p):GoneIs (ts.set n (p.1,true)) (gone++[p.1.nm]):=λi q hq=>by
 rw[Alj];by_cases e:n=i
 ·subst e
  rw[List.getElem?_set,if_pos rfl,if_pos (A2.1 hp).1] at hq;obtain rfl:=A5 hq;simp
 ·rw[List.getElem?_set,if_neg e] at hq
  rw[hG i q hq]
  have:(p.1.nm.toList==q.1.nm.toList)=false:=by
   rw[← Bool.not_eq_true,beq_iff_eq];intro h1;refine e (AbN ha (a:=p.1.nm) ?_ ?_)
   ·rw[nms,B0,Y0 h hp];rfl
   ·rw[nms,B0,Y0 h hq,Aac h1];rfl
  rw[this,Bool.or_false]
theorem Aoa {bs:List Ba} {ts:List Tr} (h:ts.map (·.1)=bs) {n:Nat} {p:Tr} (hp:ts[n]?=some p):(ts.set n (p.1,true)).map (·.1)=bs:=by
 rw[List.map_set,h];have:=Y0 h hp;obtain⟨hn,e⟩:=A2.1 this;show bs.set n p.1=bs
 rw[← e,List.set_getElem_self]
theorem row_at {bs:List Ba} {ts:List Tr} (h:ts.map (·.1)=bs) {n:Nat} (hn:n<bs.length):∃p,ts[n]?=some p/\p.1=bs[n]:=by
 have hl:n<ts.length:=by rw[← h] at hn;simpa using hn
 refine⟨ts[n],A0 hl,?_⟩;have:=Y0 h (A0 hl);rw[A0 hn] at this;exact (A5 this).symm
theorem All (bs:List Ba) (k:Nat):GoneIs (ts0 bs k) []:=λi p hp=>by
 rw[ts0,B0,B5] at hp;obtain⟨x,_,rfl⟩:=hp;rfl
theorem AmD {b:Bk} (hok:BookOk b) {ts:List Tr} (h:ts.map (·.1)=b.bs) {gone:List ByteArray} (hG:GoneIs ts gone) {a:Nat} {p:Tr} (hp:ts[a]?=some p) :
  (!p.2&&decide (bitsN b.things (memS p.1.needs) &&& (18446744073709551615-(bitsN b.things (freeL ts)+bitsN b.things (memS p.1.has)))=0))=true↔Good b.bs gone a:=by
 have hb:=Y0 h hp;rw[Bool.and_eq_true,Bool.not_eq_true',decide_eq_true_eq];constructor
 ·rintro⟨h1,h2⟩
  exact⟨p.1,hb,by rw[← hG a p hp];exact h1,(Ai6 hok h hG hp h1).1 h2⟩
 ·rintro⟨x,hx,h1,h2⟩
  rw[hb] at hx;obtain rfl:=A5 hx;have h3:p.2=false:=by rw[hG a p hp];exact h1
  exact⟨h3,(Ai6 hok h hG hp h3).2 h2⟩
theorem Alm (tb:Nat) (b:Bk) (ts:List Tr) (gone:List ByteArray) (w:World) (h:Tab w tb b.things ts) (hok:BookOk b) (hm:ts.map (·.1)=b.bs) (hG:GoneIs ts gone) :
  Calls Tryz.prog 214 #[.pointer (some ⟨tb,0,none⟩)] w λe w'=>((∃k:Nat,e=.returned (.tuple #[.int .i64 k,.bool true])/\NextIs b.bs gone (k:Int))∨(e=.returned (.tuple #[.int .i64 0,.bool false])/\NextIs b.bs gone (-1)))/\Below w.heap.size w w':=by
 have hT:=h;obtain⟨rv,hC,hown⟩:=h;have h8:=hok.1.1;have hlb:ts.length=b.bs.length:=by rw[← hm];simp
 have h5:ts.length<=5:=by have:=hok.2.1;omega
 have Hlb:Hid (ts.length=b.bs.length):=hlb;have HG:Hid (∀(a:Nat) (p:Tr),ts[a]?=some p->((!p.2&&decide (bitsN b.things (memS p.1.needs) &&& (18446744073709551615-(bitsN b.things (freeL ts)+bitsN b.things (memS p.1.has)))=0))=true↔Good b.bs gone a)):=λa p hp=>AmD hok hm hG hp
 obtain⟨rva,rvc,rfl⟩:∃a c,rv=.slice a ts.length c:=by
  rcases hown.2 with⟨h0,h1⟩|⟨g,cap,_,hv,_⟩
  ·exact⟨none,0,by rw[h0,h1]⟩
  ·exact⟨_,cap,hv⟩
 obtain⟨t0,t1⟩:=hC.c2';clear hC hown hlb hok hm hG;go_enter Tryz.func214,Tryz.ntmps214
 go_wp2_with fail
 go_loopw [4,10] (λ_ i w'=>∃k:Nat,k<=ts.length/\i=.int .i64 k/\(∀j,j<k->¬Good b.bs gone j)/\Below w.heap.size w w') (λ_ i _=>ts.length-(intOf i).toNat)
 case atStart=>exact⟨0,by omega,rfl,λj hj=>by omega,A4 _ _⟩
 case round =>
  obtain⟨k,hk,rfl,hal,hB⟩:=hrel;have Hal:Hid (∀j,j<k->¬Good b.bs gone j):=hal;clear hal;by_cases hp:k<ts.length
  ·have hpk:=A0 hp
   have HI:=HG.out k _ hpk;have HI':Hid ((!(ts[k]).2&&decide (bitsN b.things (memS (ts[k]).1.needs) &&& (18446744073709551615-(bitsN b.things (freeL ts)+bitsN b.things (memS (ts[k]).1.has)))=0))=true↔Good b.bs gone k):=HI;clear HI;go_wp2_with fail
   refine (AnX tb k b.things ts _ _ (hT.up hB) h8 hpk h5).mono ?_;rintro e w2 ⟨rfl,hb2⟩;have hB2:=D6 hB hb2;clear hB hb2;revert HI'
   generalize (!(ts[k]).2&&decide (bitsN b.things (memS (ts[k]).1.needs) &&& (18446744073709551615-(bitsN b.things (freeL ts)+bitsN b.things (memS (ts[k]).1.has)))=0))=cb;intro HI';cases cb
   ·have Hs:Hid (∀j,j<k+1->¬Good b.bs gone j):=AbD Hal.out λh=>by have:=HI'.out.2 h;cases this
    clear HI' HG;go_wp2_with fail
    go_roundw
    case rel=>exact⟨k+1,by omega,by go_num,Hs.out,hB2⟩
    case measure=>simp[intOf];omega
   ·have Hs:Hid (NextIs b.bs gone (k:Int)):=.inr ⟨k,rfl,by have:=Hlb.out;omega,HI'.out.1 rfl,Hal.out⟩
    clear HI' HG;go_wp2_with fail
    go_returns
    exact⟨.inl ⟨k,rfl,Hs.out⟩,hB2⟩
  ·have Hs:Hid (NextIs b.bs gone (-1)):=.inl ⟨rfl,λj hj=>Hal.out j (by have:=Hlb.out;omega)⟩
   go_wp2_with fail
   go_returns
   exact⟨.inr ⟨rfl,Hs.out⟩,hB⟩
end Go.Proofs.YtebfdccbmmpceaaGreatDoor
