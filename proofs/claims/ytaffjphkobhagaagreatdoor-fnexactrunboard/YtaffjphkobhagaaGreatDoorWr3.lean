/- The walks over recipes: ok or not, by the program. -/
import Derived.Test.YtaffjphkobhagaaGreatDoorWd
import Derived.Test.YtaffjphkobhagaaGreatDoorJ10
namespace Go.Proofs.YtaffjphkobhagaaGreatDoor
open Proofs.Tryz
open Go.RowKit
theorem Af4(b1 b2 b3 b4:Bool):(b1=false)\/(b1=true/\b2=true)\/(b1=true/\b2=false/\b3=false)\/(b1=true/\b2=false/\b3=true/\b4=false)\/(b1=true/\b2=false/\b3=true/\b4=true):=by revert b1 b2 b3 b4;decide
set_option maxHeartbeats 4000000 in
theorem Dr(ps:List Ph)(b o c:Nat)(w:World)(hE:F6 w)(hr:G4 w b o ps)(hb:b<w.heap.size)(hs:Dz ps)(hcap:ps.length<=c)(hc9:c<=9223372036854775807):
  cU prog 135 #[Sx b o ps.length c] w (.bool (M3 ps)):=by
 by_cases hl:1<=ps.length
 case neg =>
  delta cU;go_in;go_wp2;go_ret;exact⟨D4 (LR ps oM).symm,A4 _ _⟩
 by_cases hl2:ps.length<=12
 case neg =>
  delta cU;go_in;go_wp2;go_ret;exact⟨D4 (LR ps oM).symm,A4 _ _⟩
 have HE:Hid (F6 w):=hE;clear hE;delta cU;go_in;go_wp2_with fail;(try dsimp only[Iz,Sy,Sx,Nz,Vz,Tz,Ez,Pz]);go_loopw [16] (λi w'=>∃k:Nat,k<=ps.length/\i=.int .i64 k/\GO ps k/\Up w w') (λi _=>ps.length-(intOf i).toNat)
 case atStart=>exact⟨0,oM,rfl,YK ps,A4 _ _⟩
 case round =>
  obtain⟨k,hk,rfl,a3,hB⟩:=hrel;have Hal:Hid (GO ps k):=a3;clear a3;by_cases hp:k<ps.length
  .obtain⟨c0,c1,c2,c3,c4,c5,c6,c7⟩:=hr.cells k hp;obtain⟨z0,z1,z2,z3,z4⟩:=hs ps[k] dC;obtain⟨hc,hf⟩:=E2 hB;have Hno:Hid (Al ps k ps[k]=false->M3 ps=false):=Abg ps k hp;have Hyes:Hid (Al ps k ps[k]=true->GO ps (k+1)):=YI Hal.out hp;have a0:=hB;clear hB;have hd:∃b1 b2 b3 b4,O7 (ps[k]).nm (ps[k]).k (ps[k]).a (ps[k]).b (ps[k]).n (ps[k]).wi (ps[k]).t (ps[k]).e=b1/\H7 (ps.drop (k+1)) (ps[k]).nm=b2/\AP (ps.drop (k+1)) (ps[k]).t=b3/\AP (ps.drop (k+1)) (ps[k]).e=b4/\((b1=false)\/(b1=true/\b2=true)\/(b1=true/\b2=false/\b3=false)\/(b1=true/\b2=false/\b3=true/\b4=false)\/(b1=true/\b2=false/\b3=true/\b4=true)):=⟨_,_,_,_,rfl,rfl,rfl,rfl,Af4 _ _ _ _⟩
   obtain⟨o',a1,a4⟩:∃o',(if c=k+1 then o'=o else o'=o+(k+1)*8)/\G4 w b o' (ps.drop (k+1)):=by
    by_cases a1:c=k+1
    .exact⟨o,by rw[if_pos a1],by rw[List.drop_of_length_le oM];intro i p hp;simp at hp⟩
    .exact⟨_,by rw[if_neg a1],hr.drop (k+1)⟩
   clear hr hs;obtain⟨b1,b2,b3,b4,h1,h2,h3,h4,hd⟩:=hd;by_cases hcc:c=k+1
   all_goals
    (first|(rw[if_pos hcc] at a1;subst a1 hcc)|(rw[if_neg hcc] at a1;subst a1))
    rcases hd with rfl|⟨rfl,rfl⟩|⟨rfl,rfl,rfl⟩|⟨rfl,rfl,rfl,rfl⟩|⟨rfl,rfl,rfl,rfl⟩<;>go_wp2_with (first|(go_at_call 181;refine (RJ _ _ _ _ _ _ _ _ _ (HE.out.up (a0.alloc a0.size _)) z0 z1 z2 z3 z4).mono ?_;rintro e w1 ⟨rfl,a2⟩;obtain⟨hB,hc,hf⟩:=gr a2)|(go_at_call 182;refine (Af3 (ps.drop (k+1)) _ _ _ _ _ _ (by rw[A8]<;>omega) (a4.up (D3 (a0.alloc a0.size _) hB) hb) (A1 hb (D3 (a0.alloc a0.size _) hB).size) (by rw[A8];omega)).mono ?_;rintro e w1 ⟨rfl,a2⟩;obtain⟨hB,hc,hf⟩:=gr a2)|(go_at_call 183;refine (AdP (ps.drop (k+1)) _ _ _ _ _ _ (by rw[A8]<;>omega) (HE.out.up (D3 (a0.alloc a0.size _) hB)) (a4.up (D3 (a0.alloc a0.size _) hB) hb) (A1 hb (D3 (a0.alloc a0.size _) hB).size) (by rw[A8];omega)).mono ?_;rintro e w1 ⟨rfl,a2⟩;obtain⟨hB,hc,hf⟩:=gr a2))
    iterate 4 (first|(go_ret;exact⟨D4 (Hno.out (by simp[Al,Ph.okB,h1,h2,h3,h4])).symm,D3 (a0.alloc a0.size _) hB⟩)|skip)
    go_roundw
    case rel=>exact⟨k+1,oM,mO,Hyes.out (by simp[Al,Ph.okB,h1,h2,h3,h4]),D3 (a0.alloc a0.size _) hB⟩
    case measure=>simp[intOf];omega
  .go_wp2;go_ret;exact⟨D4 (YM ps k ⟨hl,hl2⟩ hk hp Hal.out).symm,hB⟩
end Go.Proofs.YtaffjphkobhagaaGreatDoor
