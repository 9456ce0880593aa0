/- The reader of a code, for the share: its walks. -/
import Derived.Test.YtmfjakieahkacaaGreatDoorJ14
namespace Go.Proofs.YtmfjakieahkacaaGreatDoor
open Go.RowKit
set_option maxHeartbeats 2000000 in
theorem T0(rb len N:Nat)(v:Value)(n:Int)(w:World)(hR:Rd w rb v len N)(hN:N<=1000000):
  Calls Tryz.prog 54 #[.pointer (some ⟨rb,0,none⟩),.int .i64 n] w
   λe w'=>(∃x:Int,e=.returned (.int .i64 x)/\0<=x/\(1<=n->x<n))/\Rd w' rb v len (N+1)/\w.grownBy w' (some rb):=by
 obtain⟨p,hp,c0,c1,f1,hby,hl⟩:=hR;have d0:(w.setCell ⟨rb,1,none⟩ (.int .i64 ((p:Int)+1))).cell? ⟨rb,0,none⟩=some v:=by rw[C1 _ _ _ _ (by simp)];exact c0
 have d1:(w.setCell ⟨rb,1,none⟩ (.int .i64 ((p:Int)+1))).cell? ⟨rb,1,none⟩=some (.int .i64 ((p:Int)+1)):=World.cell?_setCell_same _ _ _ c1;have d2:(w.setCell ⟨rb,1,none⟩ (.int .i64 ((p:Int)+1))).frozen? ⟨rb,1,none⟩=false:=by rw[World.frozen?_setCell];exact f1
 have hg:w.grownBy (w.setCell ⟨rb,1,none⟩ (.int .i64 ((p:Int)+1))) (some rb):=E3 (F7 _ _) _;have HR:Hid (Rd (w.setCell ⟨rb,1,none⟩ (.int .i64 ((p:Int)+1))) rb v len (N+1)):=⟨p+1,by omega,d0,by simpa using d1,d2,hby.kept hg,hl⟩;obtain⟨a,cap,rfl,hby⟩:=hby;by_cases hn:n<1
 ·go_enter Tryz.func54,Tryz.ntmps54;go_wp2;go_ret;exact⟨⟨0,rfl,by omega,by omega⟩,HR.out,hg⟩
 by_cases h0:len=0
 ·subst h0;go_enter Tryz.func54,Tryz.ntmps54;go_wp2;go_ret;exact⟨⟨0,rfl,by omega,by omega⟩,HR.out,hg⟩
 rcases hby with h|⟨b,o,z,rfl,hb,hz⟩
 ·exact absurd h h0
 have e0:((len:Int)==0)=false:=by simp;omega
 by_cases hpl:p<len
 ·obtain⟨hz1,hz2,hz3⟩:=hz p hpl;have hz1':=hg.cell hz1 (by simp;omega);go_enter Tryz.func54,Tryz.ntmps54;go_wp2;go_ret;exact⟨⟨_,rfl,Int.emod_nonneg _ (by omega),Int.emod_lt_of_pos _ (by omega)⟩,HR.out,hg⟩
 ·obtain⟨y1,y2,y3⟩:=hz (p % len) (Nat.mod_lt _ (by omega));obtain⟨q1,q2,q3⟩:=hz ((p*7+3) % len) (Nat.mod_lt _ (by omega));have y1':=hg.cell y1 (by simp;omega);have q1':=hg.cell q1 (by simp;omega);have hm1:p % len<len:=Nat.mod_lt _ (by omega);have hm2:(p*7+3) % len<len:=Nat.mod_lt _ (by omega);have hlen:0<len:=by omega
  have i1:(0:Int)<=(p:Int) % (len:Int):=Int.emod_nonneg _ (by omega);have i2:(p:Int) % (len:Int)<(len:Int):=Int.emod_lt_of_pos _ (by omega);have i3:(0:Int)<=((p:Int)*7+3) % (len:Int):=Int.emod_nonneg _ (by omega);have i4:((p:Int)*7+3) % (len:Int)<(len:Int):=Int.emod_lt_of_pos _ (by omega);have t1:((p:Int) % (len:Int)).toNat=p % len:=by rw[← Int.natCast_emod];rfl
  have t2:(((p:Int)*7+3) % (len:Int)).toNat=(p*7+3) % len:=by rw[show ((p:Int)*7+3)=((p*7+3:Nat):Int) by omega,← Int.natCast_emod];rfl
  have j1:(0:Int)<=(p:Int) / (len:Int):=Int.ediv_nonneg (by omega) (by omega);have j2:(p:Int) / (len:Int)<=(p:Int):=by rw[← Int.natCast_ediv];have:=Nat.div_le_self p len;omega
  clear hz y1 q1;go_enter Tryz.func54,Tryz.ntmps54;go_wp2;go_quiet (fail);obtain⟨X,hX,hX9⟩:∃X:Nat,z (p % len)*131+z ((p*7+3) % len)*1117+(p:Int)*29+(p:Int) / (len:Int)*53=(X:Int)/\X<=1000000000:=⟨(z (p % len)*131+z ((p*7+3) % len)*1117+(p:Int)*29+(p:Int) / (len:Int)*53).toNat,by omega,by omega⟩;rw[hX];clear hX y1' q1' y2 y3 q2 q3 i1 i2 i3 i4 t1 t2 j1 j2 hm1 hm2;obtain⟨x1,x2⟩:=Zv X (X / 64) (by omega) (by omega);rw[show ((X / 64:Nat):Int)=(X:Int) / 64 by omega] at x1 x2;go_wp2;go_ret;exact⟨⟨_,rfl,Int.emod_nonneg _ (by omega),λ_=>Int.emod_lt_of_pos _ (by omega)⟩,Rd.drewN HR.out nq,Qx hg nq⟩
theorem Ca(rb len N:Nat)(v:Value)(ss:List ByteArray)(n g o c:Nat)(w:World)(hl:ss.length=n)(hR:Rd w rb v len N)(hN:N<=1000000)(hS:L6 w g o ss)(hne:g≠rb)(hpos:0<n)(hbig:n<=1000):
  Calls Tryz.prog 56 #[.pointer (some ⟨rb,0,none⟩),.slice (some ⟨g,o,none⟩) n c] w
   λe w'=>(∃s∈ss,e=.returned (.string s))/\Rd w' rb v len (N+1)/\w.grownBy w' (some rb):=by
 go_enter Tryz.func56,Tryz.ntmps56;go_wp2_with fail;refine (T0 rb len N v _ w hR hN).mono ?_;rintro e w1 ⟨⟨x,rfl,hx0,hx1⟩,hR1,hg1⟩;have hx2:=hx1 (by omega);obtain⟨k,rfl⟩:∃k:Nat,x=(k:Int):=⟨x.toNat,by omega⟩;have hk:k<n:=by omega
 have hcell:=(hS.kept hg1 hne) k (ss[k]'(by omega)) (by simp);have Hm:Hid (ss[k]'(by omega)∈ss):=by show _∈_;simp
 generalize ss[k]'(by omega)=s at *;clear hx1 hS;go_wp2_with fail;go_ret;exact⟨⟨s,Hm.out,rfl⟩,hR1,hg1⟩
end Go.Proofs.YtmfjakieahkacaaGreatDoor
