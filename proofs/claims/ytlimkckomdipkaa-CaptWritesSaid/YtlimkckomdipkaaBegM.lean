/- The beginning of a capture. -/
import Derived.Test.YtlimkckomdipkaaPlM
namespace Go.Proofs.Ytlimkckomdipkaa
def beginC (a c : Cap) : Cap := ⟨c.note, c.faces, c.names.take a.names.length, c.secs.take a.secs.length, c.pkts.take a.pkts.length⟩
end Go.Proofs.Ytlimkckomdipkaa
