/- Drawing for the share: a book in which all just have something. -/
import Derived.Test.YtmfjakieahkacaaGreatDoorJ36
import Derived.Test.YtmfjakieahkacaaGreatDoorJ24
namespace Go.Proofs.YtmfjakieahkacaaGreatDoor
open Go.RowKit
structure WQ (w W:World) (rb len N nb:Nat) (v tv xv:Value) (q:Option Nat) (fs:List (Value×List ByteArray)) (ps:List Bv):Prop where
 a:CB W w.heap.size [tv,xv]
 r:CB W (w.heap.size+1) [.slice none 0 0,.slice none 0 0]
 nm:L6 W nb 0 P0
 rd:Rd W rb v len N
 g:w.grownBy W (some rb)
 row:W.ownsRow (nb+1) 49 3 xv ps.length (I8 ps)
 fam:M1 W (nb+1) q (fs++N4 ps)
 rq:∀k,xv.ownBlock=some k->some k≠q
 ql:∀k,q=some k->nb+1<=k/\k<W.heap.size
 nz:w.heap.size+2<=nb
 z:nb+1<=W.heap.size
variable {w W X:World} {rb len N M nb k:Nat} {v tv xv u u':Value} {q:Option Nat} {fs:List (Value×List ByteArray)} {ps:List Bv} {ss ss':List ByteArray}
theorem WQ.gr(h:WQ w W rb len N nb v tv xv q fs ps)(hrb:rb<w.heap.size)(hg:W.grownBy X (some rb))(hr:Rd X rb v len M):WQ w X rb len M nb v tv xv q fs ps :=
 have:=h.nz;⟨h.a.kept hg (by simp;omega),h.r.kept hg (by simp;omega),h.nm.kept hg (by omega),hr,L0 h.g hg,G9 h.row hg (by omega),h.fam.gr hg (by omega),h.rq,λk hk=>⟨(h.ql k hk).1,A1 (h.ql k hk).2 hg.size⟩,h.nz,B3 h.z hg.size⟩
theorem WQ.up(h:WQ w W rb len N nb v tv xv q fs ps)(hb:Below W.heap.size W X):WQ w X rb len N nb v tv xv q fs ps :=
 ⟨h.a.up hb h.a.2.2,h.r.up hb h.r.2.2,h.nm.up hb (by have:=h.z;omega),h.rd.kept hb,L0 h.g (O2 hb),P8 h.row hb,h.fam.up hb,h.rq,λk hk=>⟨(h.ql k hk).1,A1 (h.ql k hk).2 hb.size⟩,h.nz,B3 h.z hb.size⟩
theorem WQ.alloc(h:WQ w W rb len N nb v tv xv q fs ps)(o:Obj):WQ w (W.alloc o) rb len N nb v tv xv q fs ps:=h.up ((A4 _ _).alloc (A3 _) _)
theorem WQ.drew(h:WQ w W rb len N nb v tv xv q fs ps):WQ w W.drew rb len N nb v tv xv q fs ps:=h.up (A4 _ _).drew
theorem WQ.mono(h:WQ w W rb len N nb v tv xv q fs ps)(hM:N<=M):WQ w W rb len M nb v tv xv q fs ps:=⟨h.a,h.r,h.nm,h.rd.mono hM,h.g,h.row,h.fam,h.rq,h.ql,h.nz,h.z⟩
theorem WQ.perm{gs:List (Value×List ByteArray)}(h:WQ w W rb len N nb v tv xv q fs ps)(hp:(fs++N4 ps).Perm (gs++N4 ps)):WQ w W rb len N nb v tv xv q gs ps:=⟨h.a,h.r,h.nm,h.rd,h.g,h.row,h.fam.perm hp,h.rq,h.ql,h.nz,h.z⟩
theorem WQ.head(h:WQ w W rb len N nb v tv xv q ((u,ss)::fs) ps):E5 W (nb+1) u ss:=h.fam.own (u,ss) (by simp)
theorem WQ.app(h:WQ w W rb len N nb v tv xv q ((u,ss)::fs) ps)(hrb:rb<w.heap.size)(hg:W.grownBy X u.ownBlock)(hu:E5 X (nb+1) u' ss')(hw:DW W u u'):WQ w X rb len N nb v tv xv q ((u',ss')::fs) ps :=
 have ho:=h.head;have hz:=h.nz;⟨h.a.kept hg (R3 ho (by omega)),h.r.kept hg (R3 ho (by omega)),h.nm.own ho hg (by omega),h.rd.own ho hg (by omega),AN h.g ho hg (by omega),S9 h.row hg (Be h.row ho (by decide)),
 M1.app (fs:=fs++N4 ps) h.fam hg hu hw (λk hk=>(h.ql k hk).2),h.rq,λk hk=>⟨(h.ql k hk).1,A1 (h.ql k hk).2 hg.size⟩,h.nz,B3 h.z hg.size⟩
theorem WQ.cbApp{cs:List Value}(h:WQ w W rb len N nb v tv xv (some k) ((u,ss)::fs) ps)(d:CB W k cs)(hg:W.grownBy X u.ownBlock):CB X k cs :=
 d.kept hg λe=>h.fam.av (u,ss) (by simp) k e.symm rfl
theorem WQ.set(h:WQ w W rb len N nb v tv xv (some k) fs ps)(hrb:rb<w.heap.size)(j:Nat)(x:Value):WQ w (W.setCell ⟨k,j,none⟩ x) rb len N nb v tv xv (some k) fs ps :=
 have hk:=h.ql k rfl;have hz:=h.nz;⟨h.a.other (by omega),h.r.other (by omega),h.nm.other (by omega),h.rd.setCell (by omega),K8 h.g (by omega) _,S9 h.row (E3 (F7 _ _) _) h.rq,h.fam.set j x,h.rq,λm hm=>⟨(h.ql m hm).1,by simpa using (h.ql m hm).2⟩,h.nz,by simpa using h.z⟩
theorem WQ.new{n:Nat}(h:WQ w W rb len N nb v tv xv q fs ps)(h':WQ w X rb len M nb v tv xv q fs ps)(hu:E5 X n u ss)(hn:W.heap.size<=n):WQ w X rb len M nb v tv xv q ((u,ss)::fs) ps :=
 ⟨h'.a,h'.r,h'.nm,h'.rd,h'.g,h'.row,M1.new (fs:=fs++N4 ps) h.fam h'.fam hu hn (B3 h.z hn) (λk hk=>(h.ql k hk).2),h'.rq,h'.ql,h'.nz,h'.z⟩
theorem WQ.nil(h:WQ w W rb len N nb v tv xv q fs ps):WQ w W rb len N nb v tv xv q ((.slice none 0 0,[])::fs) ps :=
 ⟨h.a,h.r,h.nm,h.rd,h.g,h.row,M1.nil_new (fs:=fs++N4 ps) h.fam,h.rq,h.ql,h.nz,h.z⟩
theorem WQ.avoid(h:WQ w W rb len N nb v tv xv q fs ps)(h':WQ w X rb len M nb v tv xv q fs ps)(hk:W.heap.size<=k)(hk':k<X.heap.size):WQ w X rb len M nb v tv xv (some k) fs ps :=
 ⟨h'.a,h'.r,h'.nm,h'.rd,h'.g,h'.row,(M1.avoid h.fam hk).keep (λf hf _=>h'.fam.own f hf),λm hm e=>by
  have h1:=(World.ownsRow.lt h.row m hm).2;have:m=k:=by simpa using e
  omega,λm hm=>by
  obtain rfl:k=m:=by simpa using hm
  have:=h.z;exact⟨by omega,hk'⟩,h'.nz,h'.z⟩
theorem WQ.turn{a b c:Value×List ByteArray}(h:WQ w W rb len N nb v tv xv q [a,b,c] ps):WQ w W rb len N nb v tv xv q [c,b,a] ps:=h.perm ((List.reverse_perm [c,b,a]).append_right _)
theorem WQ.push{hv nv tk v':Value}{hs ns tks:List ByteArray}{s0:ByteArray}(h:WQ w W rb len N nb v tv xv (some k) [(hv,hs),(nv,ns),(tk,tks)] ps)(hrb:rb<w.heap.size)(hrow:X.ownsRow (nb+1) 49 3 v' (ps.length+1) (I8 ps++[.string s0,hv,nv]))(hg:W.grownBy X xv.ownBlock):
  WQ w (X.setCell ⟨w.heap.size,1,none⟩ v') rb len N nb v tv v' none [(tk,tks)] (ps++[((⟨s0,hs,ns⟩,hv,nv):Bv)]):=by
 have hz:=h.nz
 have hrX:X.ownsRow (nb+1) 49 3 v' (ps++[((⟨s0,hs,ns⟩,hv,nv):Bv)]).length (I8 (ps++[((⟨s0,hs,ns⟩,hv,nv):Bv)])):=by
  rw[BN,A8];exact hrow
 have hp:([(hv,hs),(nv,ns),(tk,tks)]++N4 ps).Perm ([(tk,tks)]++N4 (ps++[((⟨s0,hs,ns⟩,hv,nv):Bv)])) :=
  ((List.perm_append_comm (l₁:=[(hv,hs),(nv,ns)]) (l₂:=[(tk,tks)])).append_right (N4 ps)).trans (FY ps ((⟨s0,hs,ns⟩,hv,nv):Bv) [(tk,tks)])
 refine⟨?_,(h.r.kept hg (R3 h.row (by omega))).other (by omega),(h.nm.own h.row hg (by omega)).other (by omega),?_,K8 (AN h.g h.row hg (by omega)) (by omega) _,G9 hrX (E3 (F7 _ _) _) (by omega),(((h.fam.row h.row hg).free.setLow (by omega) 1 v').perm hp),λm _=>by simp,λm hm=>by simp at hm,h.nz,B3 h.z (by simpa using hg.size)⟩
 ·exact (h.a.kept hg (R3 h.row (by omega))).set (j:=1) (by simp)
 ·exact (h.rd.own h.row hg (by omega)).setCell (by omega)
theorem Aac:EK []:=λp hp=>by simp at hp
theorem Abk(h:EK ps)(hl:ps.length<=40){ts:List ByteArray}(ht:∀s∈ts,s.size<=maxLen)(htl:ts.length<=40):Bh ⟨ts,ps.map (·.1)⟩/\CM ⟨ts,ps.map (·.1)⟩:=by
 have hm:∀x∈ps.map (·.1),∃p∈ps,p.1=x:=λx hx=>by simpa using List.mem_map.1 hx
 refine⟨⟨ht,λx hx=>?_⟩,htl,by simpa using hl,λx hx=>?_⟩
 ·obtain⟨p,hp,rfl⟩:=hm x hx;exact (h p hp).2.2.2
 ·obtain⟨p,hp,rfl⟩:=hm x hx;exact⟨(h p hp).2.1,(h p hp).2.2.1⟩
end Go.Proofs.YtmfjakieahkacaaGreatDoor
