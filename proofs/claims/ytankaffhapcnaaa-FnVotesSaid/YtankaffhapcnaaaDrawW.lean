/- The draw of a word. No condition. -/
import Derived.Test.YtankaffhapcnaaaLive
namespace Go.Proofs.Ytankaffhapcnaaa.Draw
open Go.RowKit Cur Bs
set_option linter.unusedVariables false
def words : List ByteArray := [⟨#[109, 97, 105, 110]⟩, ⟨#[116, 97, 98, 108, 101]⟩, ⟨#[97, 100, 106, 111, 117, 114, 110]⟩, ⟨#[97, 109, 101, 110, 100]⟩, ⟨#[114, 101, 99, 101, 115, 115]⟩, ⟨#[114, 101, 102, 101, 114]⟩, ⟨#[108, 105, 109, 105, 116]⟩, ⟨#[99, 97, 108, 108]⟩, ⟨#[97]⟩, ⟨#[98, 121, 108, 97, 119, 115]⟩]
end Go.Proofs.Ytankaffhapcnaaa.Draw
